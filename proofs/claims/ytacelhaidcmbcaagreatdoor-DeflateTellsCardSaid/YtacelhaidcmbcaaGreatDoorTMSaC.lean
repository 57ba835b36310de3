/- Texts of one place, one behind the other: SaC, SaD. -/
import Derived.Test.YtacelhaidcmbcaaGreatDoorTMSaA
import Derived.RangeFuncNested
import Derived.RangeFuncBox
import Derived.RangeFuncCalls
import Derived.RangeFuncLeaves
import Derived.RangeFuncWrites
import Derived.Shelf.Abstract
import Derived.OwnWalkIn
import Derived.TacticsInMore
import Derived.LoopNIn
import Derived.LoopIn
import Derived.Laws.EntriesVeiled
import Derived.Deep.AppendLies
import Derived.RegionIn
import Derived.Shelf.RegionOpen
import Derived.Test.YtacelhaidcmbcaaGreatDoorTMRns
set_option maxHeartbeats 8000000
set_option maxRecDepth 1000000
set_option linter.unusedVariables false
set_option linter.unusedSimpArgs false
namespace Go.Proofs.YtacelhaidcmbcaaGreatDoor.U
open Go.Lib (hid)
open Go Go.RowKit M
attribute [local go_sem] Oper.semAt_some
def rst(v n left:Nat):List Rn:=if v=0 then zrs left else if left=n then oth v n else z6H v left
theorem zfV(v n:Nat):rst v n n=one v n:=by
 unfold rst one
 split
 · rfl
 · rw[if_pos rfl]
theorem zd1(v n:Nat)(hn:1≤n):rst v n 0=[]:=by
 unfold rst
 split
 · rw[z17 (by omega)];rfl
 · rw[if_neg (by omega),z0L (by omega)];rfl
structure Rnd(v n left s k:Nat):Prop where
 sym:s=sof v left (decide (left<n))
 lt:s<19
 cnt:k=min left (smo s)
 lo:sl s≤k
 hi:k≤left
 pos:1≤k
 few:k - sl s≤127
 rest:rst v n left=⟨s,k - sl s⟩::rst v n (left - k)
theorem rnd(v n left:Nat)(hv:v≤15)(h1:1≤left)(h2:left≤n):∃s k,Rnd v n left s k:=by
 by_cases h0:v=0
 · subst h0
   by_cases h11:11≤left
   · refine⟨18,min left 138,⟨?_,by omega,rfl,?_,by omega,by omega,?_,?_⟩⟩
     · unfold sof;rw[if_pos ⟨rfl,h11⟩]
     · show 11≤_;omega
     · show _ - 11≤_;omega
     · unfold rst;rw[if_pos rfl,if_pos rfl,z1n h11];rfl
   · by_cases h3:3≤left
     · refine⟨17,left,⟨?_,by omega,?_,?_,by omega,by omega,?_,?_⟩⟩
       · unfold sof;rw[if_neg (fun q=>h11 q.2),if_pos ⟨rfl,h3⟩]
       · show left=min left 10;omega
       · exact h3
       · show _ - 3≤_;omega
       · unfold rst;rw[if_pos rfl,if_pos rfl,z1m h11 h3,Nat.sub_self,z17 (by omega)];rfl
     · refine⟨0,1,⟨?_,by omega,?_,?_,by omega,by omega,?_,?_⟩⟩
       · unfold sof;rw[if_neg (fun q=>h11 q.2),if_neg (fun q=>h3 q.2),if_neg (fun q=>q.1 rfl)]
       · show 1=min left 1;omega
       · exact qR
       · show 1 - 1≤_;omega
       · unfold rst
         rw[if_pos rfl,if_pos rfl,z17 h3,z17 (by omega)];obtain⟨q,rfl⟩:∃q,left=q+1:=⟨left - 1,by omega⟩
         rw[List.replicate_succ];rfl
 · have hs1:sl v=1:=by unfold sl;rw[if_pos (by omega)]
   have hm1:smo v=1:=by unfold smo sm;rw[hs1,if_pos (by omega)]
   by_cases he:left=n
   · subst he
     refine⟨v,1,⟨?_,by omega,by rw[hm1];omega,by rw[hs1];exact qR,by omega,by omega,by rw[hs1];omega,?_⟩⟩
     · unfold sof;rw[if_neg (fun q=>h0 q.1),if_neg (fun q=>h0 q.1),if_neg (fun q=>by have:=q.2.1;simp at this)]
     · unfold rst;rw[if_neg h0,if_pos rfl,if_neg h0,if_neg (by omega),hs1];rfl
   · by_cases h3:3≤left
     · refine⟨16,min left 6,⟨?_,by omega,rfl,?_,by omega,by omega,?_,?_⟩⟩
       · unfold sof;rw[if_neg (fun q=>h0 q.1),if_neg (fun q=>h0 q.1),if_pos ⟨h0,q9T (by omega),h3⟩]
       · show 3≤_;omega
       · show _ - 3≤_;omega
       · unfold rst;rw[if_neg h0,if_neg he,if_neg h0,if_neg (by omega),z11 h3];rfl
     · refine⟨v,1,⟨?_,by omega,by rw[hm1];omega,by rw[hs1];exact qR,by omega,by omega,by rw[hs1];omega,?_⟩⟩
       · unfold sof;rw[if_neg (fun q=>h0 q.1),if_neg (fun q=>h0 q.1),if_neg (fun q=>h3 q.2.2)]
       · unfold rst
         rw[if_neg h0,if_neg he,if_neg h0,if_neg (by omega),z0L h3,z0L (by omega),hs1];obtain⟨q,rfl⟩:∃q,left=q+1:=⟨left - 1,by omega⟩
         rw[List.replicate_succ];rfl
def ziB(x:Rn):Array Value:= #[.agg #[.int .u8 x.s,.int .u8 x.e]]
def Sx(R M n₁:Nat):Nat→Prop:=fun j=>j=R∨j=M∨n₁≤j
theorem keptSx_t{R M n₁:Nat}{A B C:World}(h:Kept (Sx R M n₁) A B)(k:Kept (Sx R M n₁) B C):Kept (Sx R M n₁) A C:=h.trans k fun j hj=> .inl hj
theorem keptSx_b{R M n₁:Nat}(W:World)(l:Nat)(o o':Obj)(hl:n₁≤l)(h:W.heap[l]? =some o):Kept (Sx R M n₁) W (W.putObj l o'):=
 (Kept.refl _ W).grown (grownBy_putObj' W l o') (fun k e=>by cases e;exact .inl (.inr (.inr hl)))
theorem sx_no{R M n₁ j:Nat}(h1:j<n₁)(h2:j≠R)(h3:j≠M):¬Sx R M n₁ j:=fun g=>by
 rcases g with g|g|g
 · exact h2 g
 · exact h3 g
 · omega
theorem Tab.kept{S:Nat→Prop}{w w':World}(h:Tab w)(hk:Kept S w w')(hS:¬S 1):Tab w':=
 ⟨fun i hi=>hk.cell (h.at0 i hi) hS,fun i hi=>hk.cell (h.at1 i hi) hS⟩
theorem zcE(m l Bt Bv R M n₁ v n:Nat)(hm:1≤m)(hv:v≤15)(h1n:1≤n)(hn:n≤2000)(hBt1:Bt<n₁)(hBt2:Bt≠R)(hBt3:Bt≠M)(hBv1:Bv<n₁)(hBv2:Bv≠R)(hBv3:Bv≠M)
 (hG1: 1 <n₁) (hG2: 1 ≠R) (hG3: 1 ≠M) (W0:World) (hn1:n₁≤W0.heap.size) (J Jx:List Rn→World→Prop) (hJ:AbidesFrom W0.heap.size J)
 (hY:∀pre x W,J pre W→pre.length<n→YieldAt Fence.wide (m - 1) Tryz.prog l (ziB x) W fun e W'=>
  (e=.returned (.bool true)∧J (pre++[x]) W'∧Kept (Sx R M n₁) W W')∨(e=.returned (.bool false)∧Jx (pre++[x]) W'))
 (hBt:W0.cell? ⟨Bt,0,none⟩=some (.int .i64 n)) (hBv:W0.cell? ⟨Bv,0,none⟩=some (.int .u8 v)) (hT:Tab W0) (h0:J [] W0):
 CallsIn Fence.wide m Tryz.prog 170 #[.func (.yield l) #[] #[],.pointer (some ⟨Bt,0,none⟩),.pointer (some ⟨Bv,0,none⟩)] W0 fun e W'=>(∃v,e=.returned v)∧
  ((∃ys:List Rn,ys=one v n∧J ys W')∨(∃pre:List Rn,True∧Jx pre W')):=by
 refine callsIn_of_wp Tryz.func170 rfl trivial ?_ rfl;simp only[Tryz.ntmps170,List.size_toArray,qC,List.length_nil,Nat.reduceAdd,Nat.reduceSub,Array.replicate_succ,Array.replicate_zero,List.push_toArray,List.append_toArray,List.nil_append,List.cons_append];have HT:=hid hT;have HSof:=hid (fun(v n:Nat) (b:Bool) (w:World) (H:Tab w) (hv:v≤15) (hn:n≤2000)=>zfO v n b w H hv hn);have HMo:=hid (fun(s:Nat) (w:World) (H:Tab w) (hs:s<19)=>zdB s w H hs);clear hT;gi_wp2
 gi_loopw [4] (fun i wr=> ∃ (left:Nat) (pre:List Rn),left≤n∧i=.int .i64 left∧pre++rst v n left=one v n∧J pre wr∧Kept (Sx R M n₁) W0 wr)
  (fun i _=>(intOf i).toNat)
 case atStart=>exact⟨n,[],qR,rfl,by rw[List.nil_append,zfV],h0,Kept.refl _ _⟩
 case round=>
  obtain⟨left,pre,hl,rfl,hp,hJs,hkp⟩:=hrel;by_cases hlt:0<left
  · have d1:decide ((0:Int)<(left:Int))=true:=q9T (by omega)
    have d1':decide (0<left)=true:=q9T hlt;obtain⟨s,k,hr⟩:=rnd v n left hv hlt hl
    have hpl:pre.length<n:=by
     have e1:=congrArg List.length hp;rw[hr.rest,qA,qC] at e1;have e2:=zaS v n h1n;omega
    have n1:=hkp.cell hBt (sx_no hBt1 hBt2 hBt3);have n2:=hkp.cell hBv (sx_no hBv1 hBv2 hBv3);have ht:=HT.out.kept hkp (sx_no hG1 hG2 hG3);have c0:=ht.at0 s hr.lt;have hsof:=HSof.out v left (decide (left<n)) wr ht hv (by omega);rw[←hr.sym] at hsof;have HS:=hid hsof;have hmo:=HMo.out s wr ht hr.lt;obtain⟨mo,hmo'⟩:∃mo,smo s=mo:=⟨_,rfl⟩
    have hk:=hr.cnt;rw[hmo'] at hk hmo;have HM:=hid hmo;have i1:(if(mo:Int)<(left:Int) then(mo:Int) else(left:Int))=(k:Int):=by split<;>omega
    have i1':(if mo<left then(mo:Int) else(left:Int))=(k:Int):=by split<;>omega
    have i2:(if mo<left then mo else left)=k:=by split<;>omega
    have b1:(left:Int)<(n:Int)↔left<n:=by omega
    obtain⟨u,hu⟩:∃u,sl s=u:=⟨_,rfl⟩
    rw[hu] at c0;have b2:=hr.lo;have b3:=hr.hi;have b4:=hr.pos;have b5:=hr.few;have b6:=hr.lt;rw[hu] at b2 b5;obtain⟨x,hx⟩:∃x,k - u=x:=⟨_,rfl⟩
    have e1:(k:Int) - (u:Int)=(x:Int):=by omega
    obtain⟨y,hy⟩:∃y,left - k=y:=⟨_,rfl⟩
    have e2:(left:Int) - (k:Int)=(y:Int):=by omega
    have hRest:=hr.rest;rw[hu,hx,hy] at hRest;have HP:=hid (show(pre++[⟨s,x⟩])++rst v n y=one v n by rw[qD,←hp,hRest];rfl);have HK:=hid hkp;have HJq:=hid (fun q=>hJ pre wr (wr.drewN q) none hJs ⟨rfl,rfl,rfl,qR,fun k hk _=>rfl⟩ (fun r e=>by cases e));clear hkp hp hJs hr hsof hmo hmo' hk hu hx hRest hBt hBv h0 HSof HMo ht
    gi_wp2_with (refine⟨trivial,?_⟩;first|(gi_at_call 171;(with_reducible refine(callsIn_wide.2 HS.out).mono ?_);rintro e w' ⟨rfl,rfl⟩)|(gi_at_call 172;(with_reducible refine(callsIn_wide.2 HM.out).mono ?_);rintro e w' ⟨rfl,q,rfl⟩;obtain⟨fn,tmps,assign,body,hy,hR⟩:=hY pre ⟨s,x⟩ _ (HJq.out q) hpl;unfold ziB at hy;dsimp only at hy))
    refine hR.mono ?_
    rintro e W3 (⟨rfl,hJ3,hk3⟩|⟨rfl,hJx3⟩)
    · gi_wp2
      go_roundw
      case rel=>exact⟨y,pre++[⟨s,x⟩],by omega,by go_num,HP.out,hJ3,keptSx_t HK.out ((Kept.refl _ wr).drewN q|>.trans hk3 fun j hj=> .inl hj)⟩
      case measure=>simp[intOf];omega
    · gi_wp2
      refine bodyPost_ret (results_none rfl _ _ _) rfl ?_
      exact⟨⟨_,rfl⟩,.inr ⟨_,trivial,hJx3⟩⟩
  · obtain rfl:left=0:=by omega
    have HP:=hid hp;clear hp;gi_wp2;go_end0;exact⟨⟨_,rfl⟩,.inl ⟨pre,by have:=HP.out;rw[zd1 v n h1n,List.append_nil] at this;exact this,hJs⟩⟩
theorem told_any(v n:Nat)(w:World):Calls Tryz.prog 152 #[.int .u8 v,.int .i64 n] w fun e w'=>
 e=.returned (.func (.func 170) #[] #[.pointer (some ⟨w.heap.size+1,0,none⟩),.pointer (some ⟨w.heap.size,0,none⟩)])∧w'=(w.alloc (.cells #[.int .u8 v] 5)).alloc (.cells #[.int .i64 n] 3):=by
 go_enter Tryz.func152,Tryz.ntmps152;go_wp2;go_ret;exact⟨by simp,rfl⟩
theorem z8J(m Bt Bv R M n₁ v n:Nat)(hm:1≤m)(hv:v≤15)(h1n:1≤n)(hn:n≤2000)(hBt1:Bt<n₁)(hBt2:Bt≠R)(hBt3:Bt≠M)(hBv1:Bv<n₁)(hBv2:Bv≠R)(hBv3:Bv≠M)
 (hG1: 1 <n₁) (hG2: 1 ≠R) (hG3: 1 ≠M) (w:World) (hn1:n₁≤w.heap.size)
 (hBt:w.cell? ⟨Bt,0,none⟩=some (.int .i64 n)) (hBv:w.cell? ⟨Bv,0,none⟩=some (.int .u8 v)) (hT:Tab w):
 SeqStopsK Fence.wide m Tryz.prog 170 #[.pointer (some ⟨Bt,0,none⟩),.pointer (some ⟨Bv,0,none⟩)] ziB (Kept (Sx R M n₁)) (fun ys=>ys=one v n) (fun _=>True) n w:=fun l J Jx W hW hJ _ hY h0=>
 zcE m l Bt Bv R M n₁ v n hm hv h1n hn hBt1 hBt2 hBt3 hBv1 hBv2 hBv3 hG1 hG2 hG3 W (qK hn1 hW.size) J Jx hJ hY ((hW.cell (p:=⟨Bt,0,none⟩) (by show Bt<_;omega)).trans hBt) ((hW.cell (p:=⟨Bv,0,none⟩) (by show Bv<_;omega)).trans hBv) (hT.below hW qR) h0
end Go.Proofs.YtacelhaidcmbcaaGreatDoor.U
namespace Go.Proofs.YtacelhaidcmbcaaGreatDoor.U
open Go.Lib (hid)
open Go Go.RowKit M
attribute [local go_sem] Oper.semAt_some
def zji(D:Nat):Deferred:={target:=.collected D,args:= #[]}
def z2d:World→List Nat→World
 |W,[]=>W
 |W,D::Ds=>z2d (W.putObj D (.deferred none)) Ds
theorem z42:∀ (Ds:List Nat) (W:World) (k:Nat),k∉Ds→(z2d W Ds).heap[k]? =W.heap[k]?
 |[],W,k,_=>rfl
 |D::Ds,W,k,h=>by
  unfold z2d;rw[z42 Ds _ k (fun g=>h (List.mem_cons_of_mem _ g))];exact World.putObj_heap_other (fun e=>h (by rw[e];exact List.mem_cons_self))
theorem z43:∀ (Ds:List Nat) (W:World) (B:Nat),(∀D∈Ds,B≤D)→B≤W.heap.size→Below B W (z2d W Ds)
 |[],W,B,_,_=>Below.refl _ _
 |D::Ds,W,B,h,hB=>by
  unfold z2d;have h1:Below B W (W.putObj D (.deferred none)):=(Below.refl B W).grown (grownBy_putObj' W D _) hB (fun k e=>by cases e;exact h D List.mem_cons_self);exact h1.trans (z43 Ds _ B (fun k g=>h k (List.mem_cons_of_mem _ g)) (qK hB h1.size))
theorem z2v{F:Fence}{n:Nat}{P:Program}{fn:Func}{tmps:Array Value}{R:Ending→World→Prop}:∀ (Ds:List Nat) (W:World),Ds.Nodup→(∀D∈Ds,W.heap[D]? =some (.deferred (some [])))→
 LeavesInM F n P fn tmps R [] .returning (z2d W Ds)→LeavesInM F n P fn tmps R (Ds.map zji) .returning W
 |[],W,_,_,h=>h
 |D::Ds,W,hn,ha,h=>⟨by simp,.inl ⟨D,_,rfl,run_takeDeferred (ha D List.mem_cons_self),z2v Ds _ (List.nodup_cons.1 hn).2 (fun D' h'=>by
  rw[World.putObj_heap_other (fun e=>(List.nodup_cons.1 hn).1 (by rw[←e];exact h'))];exact ha D' (List.mem_cons_of_mem _ h')) h⟩⟩
theorem new_at(w:World)(o:Obj):(w.alloc o).heap[w.heap.size]? =some o:=heap_alloc_new w o
theorem old_at{w:World}{i:Nat}{x:Obj}(o:Obj)(h:w.heap[i]? =some x):(w.alloc o).heap[i]? =some x:=(Below.heap_alloc w o i (qW.1 h).1).trans h
theorem one_cell{W:World}{T:TypeId}{g:Nat}{a:Value}(h:W.heap[g]? =some (.cells #[a] T (0,0))):W.cell? ⟨g,0,none⟩=some a:=by simp[World.cell?,h]
theorem one_free{W:World}{T:TypeId}{g:Nat}{a:Value}(h:W.heap[g]? =some (.cells #[a] T (0,0))):W.frozen? ⟨g,0,none⟩=false:=by simp[World.frozen?,h]
theorem one_set{W:World}{T:TypeId}{g:Nat}{a:Value}(h:W.heap[g]? =some (.cells #[a] T (0,0)))(b:Value):(W.setCell ⟨g,0,none⟩ b).heap[g]? =some (.cells #[b] T (0,0)):=by
 rw[setCell_eq_setRow W g 0 #[a] T (0,0) b h];exact setRow_heap W g #[a] #[b] T (0,0) h
theorem za4{W:World}{g k:Nat}(b:Value)(h:k≠g):(W.setCell ⟨g,0,none⟩ b).heap[k]? =W.heap[k]? :=Below.heap_setCell _ _ _ _ h
theorem z9P{W:World}{T:TypeId}{g:Nat}{a b:Value}(h:W.heap[g]? =some (.cells #[a,b] T (0,0))):W.cell? ⟨g,0,none⟩=some a∧W.cell? ⟨g,1,none⟩=some b:=by simp[World.cell?,h]
theorem z6s{F:Fence}{n:Nat}{ops:Array Oper}{rest:List Oper}{o:Oper}{a:Act}{w:World}{Q:Exit→Act→World→Prop}(hgd:o.guard=none)(s x:Operand)
 (ho:o.op=.call {callee:=.builtin .append,args:= #[s,x],argTypes:= #[134,134]}) (B:Nat) (v:Value) (L:List Rn) (hs:a.eval s=v) (h:Owr B w v L) (b c:Nat) (y e:Nat)
 (hx:a.eval x=.slice (some ⟨b,0,none⟩) 1 c) (hc:w.cell? ⟨b,0,none⟩=some (.int .u8 (y:Int))∧w.cell? ⟨b,1,none⟩=some (.int .u8 (e:Int))) (m:Nat) (hm:L.length=m) (hL:m≤3000000) (hB:B≤w.heap.size)
 (hK:∀g cap w',Owr B w' (.slice (some ⟨g,0,none⟩) (m+1) cap) (L++[⟨y,e⟩])→w.grownBy w' v.ownBlock→(v.ownBlock=some g∨w.heap.size≤g)→wpListIn F n Tryz.prog ops Q rest (a.put o.dst (.slice (some ⟨g,0,none⟩) (m+1) cap)) w'):wpListIn F n Tryz.prog ops Q (o::rest) a w:=by
 refine wpListIn_plain hgd fun K hK'=> ?_
 obtain⟨i,h1,h2,h3,h4⟩:=info_of za6
 obtain⟨g,cap,w',r1,r2,r3,r4,_⟩:=run_append_lies (P:= Tryz.prog) w 134 o.type B 138 i _ 2 2 Tryz.underlying134 h1 h2 h3 h4 rfl (by decide) v L.length (clr L) h ⟨b,0,none⟩ 1 c (clr [⟨y,e⟩]) rfl
  (fun j u hu=>by
   rw[z0o,Nat.zero_add]
   match j,hu with
   |0,hu=>simp[clr] at hu;subst hu;exact hc.1
   |1,hu=>simp[clr] at hu;subst hu;exact hc.2
   |j+2,hu=>simp[clr] at hu) (z78 _) (by decide) (by unfold maxLen;omega) (by omega) hB _ rfl
 unfold Oper.wpIn;refine⟨?_,?_⟩
 · simp[Oper.about,ho,resolve,Target.leads,Sem.run_pure]
 · rw[Oper.semAt_plain F _ _ (by rw[ho];intro c hc';cases hc')]
   simp[execOp,ho,resolve,invoke,builtin,hs,hx,r1,Result.andThen];subst hm;refine hK' _ _ (hK g cap w' ?_ r3 (by rcases r4 with q|q;exact .inl q;exact .inr (by omega)));unfold Owr;rw[qA,z2q];exact r2
def zhd(w2:World)(M R n₁:Nat)(L:List Rn)(pre:List Rn)(W:World):Prop:=
 (∃v,W.heap[M]? =some (.cells #[v] 134 (0,0))∧Owr (M+1) W v (L++pre)∧∀g,v.ownBlock=some g→g=R∨n₁≤g)∧Kept (Sx R M n₁) w2 W
theorem zhd.own{w2:World}{M R n₁:Nat}{L:List Rn}(h0:M<n₁):OwnFrom n₁ (zhd w2 M R n₁ L):=fun pre W W' row hs hg hr=>by
 obtain⟨⟨v,h1,h2,h3⟩,h4⟩:=hs;refine⟨⟨v,?_,h2.at fun g e=> ?_,h3⟩,h4.grown hg (fun r e=> .inl (.inr (.inr (hr r e).1)))⟩
 · exact(hg.block M (qW.1 h1).1 (fun e=>by have:=(hr M e.symm).1;omega)).trans h1
 · refine hg.block g (h2.lt g e).2 (fun e'=> ?_)
   obtain⟨_,o,ho,hc⟩:=hr g e'.symm;obtain⟨cs,hcs⟩:=h2.ty g e;rw[ho] at hcs;cases hcs
   cases hc
def AxP(n₁:Nat)(f:Rn→Nat→Act)(x:Rn)(a':Act)(W:World):Prop:=
 ∃Bx,n₁≤Bx∧W.heap[Bx]? =some (.cells #[.int .u8 x.s,.int .u8 x.e] 138 (0,0))∧a'=f x Bx
theorem AxP.own{n₁:Nat}{f:Rn→Nat→Act}{x:Rn}{a':Act}:OwnFrom n₁ (fun(_:Unit) W=>AxP n₁ f x a' W):=fun _ W W' row hs hg hr=>by
 obtain⟨Bx,h1,h2,h3⟩:=hs;refine⟨Bx,h1,(hg.block Bx (qW.1 h2).1 (fun e=> ?_)).trans h2,h3⟩;obtain⟨_,o,ho,hc⟩:=hr Bx e.symm;rw[h2] at ho;cases ho
 cases hc
structure PkS(w:World)(M:Nat)(l:List Nat)(i ni ci:Nat)(Ai:Option Addr)(v:Value)(L:List Rn)(Ds:List Nat)(W:World):Prop where
 row:IsBys w Ai ni (l.drop i)
 cap:ni≤ci
 box:W.heap[M]? =some (.cells #[v] 134 (0,0))
 own:Owr (M+1) W v L
 told:L++pk (l.drop i)=pk l
 low:w.heap.size≤M
 bel:Below w.heap.size w W
 nd:Ds.Nodup
 mk':∀D∈Ds,M<D∧W.heap[D]? =some (.deferred (some []))
def lenOf:Value→Nat
 |.slice _ n _=>n
 |_=>0
theorem zdr(A:Option Addr)(n c:Nat)(l:List Nat)(w:World)(HT:Tab w)(H:IsBys w A n l)(hc:n≤c)(hn:n≤2000)(hok:∀i,i<n→l.getD i 0≤15):
 Calls Tryz.prog 131 #[.slice A n c] w (RnP w (pk l)):=by
 have HC:=hid (z6a A n c l w false ⟨fun q=>(by cases q),fun⟨j,h1,h2⟩=>absurd (hok j h1) (by omega)⟩ H hn);unfold zh5 at HC;have HH:=hid H;have HTab:=hid HT;have HOk:=hid hok;have HCp:=hid hc;clear H HT hok hc;unfold RnP;refine(callsIn_wide (n:=5)).1 ?_
 refine callsIn_of_wp_marks Tryz.func131 rfl trivial ?_ rfl;simp only[Tryz.ntmps131,List.size_toArray,qC,List.length_nil,Nat.reduceAdd,Nat.reduceSub,Array.replicate_succ,Array.replicate_zero,List.push_toArray,List.append_toArray,List.nil_append,List.cons_append]
 gi_wp2_with (refine⟨trivial,?_⟩;gi_at_call 149;(with_reducible refine(callsIn_wide.2 HC.out).mono ?_);rintro e w1 ⟨rfl,b1⟩;have B1:=hid b1;clear b1)
 have hM:w.heap.size≤w1.heap.size:=B1.out.size
 refine wpIn_loop (fun a' W'=> ∃ (i ni ci:Nat) (Ai:Option Addr) (v:Value) (L:List Rn) (Ds:List Nat) (u6 u11 u12 u13 u14 u15 u16 u17 u18 u19 u20 u26 u27 u28:Value),PkS w w1.heap.size l i ni ci Ai v L Ds W'∧
  a'={tmps:= #[.slice A n c,undef,.slice none 0 0,.int .i64 0,.pointer (some ⟨w1.heap.size,0,none⟩),.slice Ai ni ci,u6,undef,.slice A n c,.bool false,.slice A n c,u11,u12,u13,u14,u15,u16,u17,u18,u19,u20,undef,undef,undef,undef,undef,u26,u27,u28,undef],defers:=Ds.map zji})
  (fun a' _=>lenOf (a'.tmps.getD 5 undef)) ?start ?round
 case start=>
  have hb:Below w.heap.size w (w1.alloc (.cells #[.slice none 0 0] 134)):=B1.out.alloc hM _;exact⟨0,n,c,A,.slice none 0 0,[],[],_,_,_,_,_,_,_,_,_,_,_,_,_,_,⟨by rw[List.drop_zero];exact HH.out,HCp.out,new_at _ _,Owr.nil _ _,by rw[List.drop_zero];rfl,hM,hb,List.nodup_nil,fun D hD=>absurd hD (by simp)⟩,rfl⟩
 case round=>
  rintro _ W ⟨i,ni,ci,Ai,v,L,Ds,u6,u11,u12,u13,u14,u15,u16,u17,u18,u19,u20,u26,u27,u28,hS,rfl⟩;have HS:=hid hS;obtain⟨M,hMe⟩:∃M,w1.heap.size=M:=⟨_,rfl⟩
  rw[hMe] at hS HS ⊢;by_cases hlt:0<ni
  · have d1:decide ((0:Int)<(ni:Int))=true:=q9T (by omega)
    have d1':decide (0<ni)=true:=q9T hlt;have hleng:=hS.row.leng
    obtain⟨x,l',hxl⟩:∃x l',l.drop i=x::l':=by
     cases e:l.drop i with
     |nil=>rw[e] at hleng;simp at hleng;omega
     |cons x l'=>exact⟨x,l',rfl⟩
    have hrow:=hS.row.below hS.bel;rw[hxl] at hrow hleng
    have hni:ni≤2000:=by
     have:=congrArg List.length hxl;rw[List.length_drop,HH.out.leng,hleng] at this;omega
    have hx15:x≤15:=by
     have h1:i<l.length:=by
      rcases Nat.lt_or_ge i l.length with g|g
      · exact g
      · rw[List.drop_of_length_le g] at hxl;cases hxl
     have h2:=HOk.out i (by rw[←HH.out.leng];exact h1);rw[List.drop_eq_getElem_cons h1] at hxl;injection hxl with h3 h4
     rw[List.getD,qE h1] at h2;simp only[Option.getD_some] at h2;rw[h3] at h2;exact h2
    have hru:=za8 x l';rw[qC] at hleng;obtain⟨t,ht⟩:∃t,ru x l'+1=t:=⟨_,rfl⟩
    have hAl:=alike_any Ai ni ci l' x W hrow hni;rw[ht] at hAl;have HAl:=hid hAl;have htn:t≤ni:=by omega
    have ht1:1≤t:=by omega
    have HTold:=hid (show(L++one x t)++pk (l.drop (i+t))=pk l by
     rw[←hS.told,hxl,z2g,ht,qD,←List.drop_drop,hxl,←ht,List.drop_succ_cons])
    have hLl:L.length+(one x t).length≤2000:=by
     have h1:=congrArg List.length HTold.out;have h2:=z4c l;rw[qA,qA] at h1;rw[HH.out.leng] at h2;omega
    have HDrop:=hid (show ∀a,(t<ni→∃b o,Ai=some ⟨b,o,none⟩∧a=some ⟨b,o+t,none⟩)→IsBys w a (ni - t) (l.drop (i+t)) from fun a ha=>by
     rw[←List.drop_drop];have h0:=hS.row;obtain⟨b,o,rfl,hbb,_⟩:=h0.at hlt
     exact h0.suf htn a (fun q=>by
      obtain⟨b',o',e1,e2⟩:=ha q;simp only[Option.some.injEq,Addr.mk.injEq,and_true] at e1;rw[e2,e1.1,e1.2]))
    obtain⟨b,o,rfl,hbb,hcc⟩:=hrow.at hlt;have c0:W.cell? ⟨b,o,none⟩=some (.int .u8 (x:Nat)):=by have:=hcc 0 hlt;simpa using this
    have htl:ru x l'+1=t:=ht;clear hS hrow hcc hAl hru hxl hleng htl ht
    gi_wp2_with (refine⟨trivial,?_⟩;first
     |(gi_at_call 151;(with_reducible refine(callsIn_wide.2 HAl.out).mono ?_);rintro e w3 ⟨rfl,b3⟩;have c3:=(b3.cell (p:=⟨b,o,none⟩) hbb).trans c0;have B3:=hid b3;clear b3)
     |(gi_at_call 152;(with_reducible refine(callsIn_wide.2 (told_any _ _ _)).mono ?_);rintro e w' ⟨rfl,rfl⟩))
    have hW3:=B3.out.size;have hz2:((w3.alloc (.cells #[.int .u8 x] 5)).alloc (.cells #[.int .i64 t] 3)).heap.size=w3.heap.size+2:=by simp
    have hb2:Below W.heap.size W ((w3.alloc (.cells #[.int .u8 x] 5)).alloc (.cells #[.int .i64 t] 3)):=(B3.out.alloc hW3 _).alloc (by simp;omega) _;have gv:((w3.alloc (.cells #[.int .u8 x] 5)).alloc (.cells #[.int .i64 t] 3)).heap[w3.heap.size]? =some (.cells #[.int .u8 x] 5 (0,0)):=old_at _ (new_at _ _)
    have gt:((w3.alloc (.cells #[.int .u8 x] 5)).alloc (.cells #[.int .i64 t] 3)).heap[w3.heap.size+1]? =some (.cells #[.int .i64 t] 3 (0,0)):=by
     have:=new_at (w3.alloc (.cells #[.int .u8 x] 5)) (.cells #[.int .i64 t] 3);rw[World.size_alloc] at this;exact this
    obtain⟨w2,hw2⟩:∃w2,(w3.alloc (.cells #[.int .u8 x] 5)).alloc (.cells #[.int .i64 t] 3)=w2:=⟨_,rfl⟩
    rw[hw2] at hz2 hb2 gv gt ⊢;clear hw2;have hMW:M<W.heap.size:=(qW.1 HS.out.box).1;have hlow:=HS.out.low;have htab:=HTab.out.below (HS.out.bel.trans (hb2.mono HS.out.bel.size)) qR;have htl:=HTab.out.lt;obtain⟨R,hR⟩:∃R,v.ownBlock.getD M=R:=⟨_,rfl⟩
    have hR1:∀g,v.ownBlock=some g→g=R:=fun g e=>by rw[←hR,e];rfl
    have hR2:M≤R∧R<W.heap.size∧(R=M∨v.ownBlock=some R):=by
     cases e:v.ownBlock with
     |none=>rw[e] at hR;simp at hR;omega
     |some g=>rw[e] at hR;simp at hR;have:=HS.out.own.lt g e;subst hR;exact⟨by omega,by omega,.inr rfl⟩
    have g2:w2.heap[M]? =some (.cells #[v] 134 (0,0)):=(hb2.block M hMW).trans HS.out.box;have o2:Owr (M+1) w2 v L:=HS.out.own.below hb2;have HG2:=hid g2;have HO2:=hid o2;have HR1:=hid hR1;have HB2:=hid hb2;have HTl:=hid htl;have hRM:M≤R:=hR2.1;have hRW:R<W.heap.size:=hR2.2.1;have HR2:=hid hR2.2.2;have hn1:W.heap.size≤w2.heap.size:=hb2.size;have hgM: 1 <M:=by omega
    clear hR hR1 hR2 hb2 htl g2 o2 c0 c3
    refine wpIn_rangeFunc_ownH rfl (by omega) (gf:= 170) (lb:= #[.pointer (some ⟨w3.heap.size+1,0,none⟩),.pointer (some ⟨w3.heap.size,0,none⟩)]) rfl trivial (enters_of Tryz.func170 (by kernel_rfl) rfl)
     (z8J 4 (w3.heap.size+1) w3.heap.size R M w2.heap.size x t (by omega) hx15 ht1 (by omega) (by omega) (by omega) (by omega) (by omega) (by omega) (by omega) (by omega) (by omega) (by omega) w2 qR (one_cell gt) (one_cell gv) htab)
     (fun h k=>keptSx_t h k) (fun W l o o' hl h _ _=>keptSx_b W l o o' hl h) (Below.refl _ _) (fun _=>rfl)
     (zhd w2 M R w2.heap.size L) (fun _ _ _=>False) (zhd.own (by omega)) (fun _ _ _ _ _ hs _ _=>hs)
     ⟨⟨v,HG2.out,by rw[List.append_nil];exact HO2.out,fun g e=> .inl (HR1.out g e)⟩,Kept.refl _ _⟩
     (AxP w2.heap.size (fun y Bx=> {tmps:= #[.slice A n c,undef,.slice none 0 0,.int .i64 0,.pointer (some ⟨M,0,none⟩),.slice (some ⟨b,o,none⟩) ni ci,.int .i64 t,.pointer (some ⟨Bx,0,none⟩),.slice A n c,.bool false,.slice A n c,
      .slice (some ⟨b,o,none⟩) ni ci,.int .i64 ni,.bool true,.slice (some ⟨b,o,none⟩) ni ci,.int .i64 t,.slice (some ⟨b,o,none⟩) ni ci,.pointer (some ⟨b,o,none⟩),.int .u8 x,.int .i64 t,
      .func (.func 170) #[] #[.pointer (some ⟨w3.heap.size+1,0,none⟩),.pointer (some ⟨w3.heap.size,0,none⟩)],.agg #[.int .u8 y.s,.int .u8 y.e],undef,undef,undef,undef,u26,u27,u28,undef],defers:=[]}))
     (fun x a'=>AxP.own) ?assign ?body ?done ?stop
    case assign=>
     rintro l2 pre y Wa K hmid hK;have HM:=hid hmid;have HK:=hid (fun(a':Act) (W':World) (h1:KeepsFrom w2.heap.size Wa W') (h2:Kept (Sx R M w2.heap.size) Wa W') (h3:zhd w2 M R w2.heap.size L pre W') h4=>hK a' W' h1 h2 h3 h4);clear hK hmid;unfold ziB;gi_wp2;exact HK.out _ _ ((KeepsOthers.alloc _ _).from _) ((Kept.refl _ _).alloc _) ((zhd.own (by omega)).alloc _ HM.out) ⟨Wa.heap.size,HM.out.2.size,new_at _ _,rfl⟩
    case body=>
     rintro l2 pre y a' Wb hl2 ⟨r,hr⟩ ⟨⟨v',m1,m2,m3⟩,mk⟩ ⟨Bx,hBx,hxc,rfl⟩ hlt2;obtain⟨ys,ye⟩:=y;simp only at hxc ⊢;obtain⟨x0,x1⟩:=z9P hxc;have s0:=one_cell m1;have f0:=one_free m1;have hMb:=(qW.1 m1).1;have H1:=hid m1;have H2:=hid m2;have H3:=hid m3;have HKb:=hid mk;have hnb:=mk.size;obtain⟨m,hm⟩:∃m,(L++pre).length=m:=⟨_,rfl⟩
     have hpl:m≤4000:=by rw[qA] at hm;omega
     have HT2:=hid (fun(w:World) (h:Owr (M+1) w v' (L++pre)) (j:Nat) (ob:Obj) (e:v'.ownBlock=some j) (ho:w.heap[j]? =some ob)=>show ob.isCells=true from by
      obtain⟨cs,hcs⟩:=h.ty j e;rw[ho] at hcs;cases hcs
      rfl)
     have HMm:=hid hm;clear m1 m2 m3 mk hxc hlt2 hr gv gt htab hm
     gi_wp2_with (gi_at_builtin;refine z6s rfl (.tmp 22) (.tmp 24) rfl (M+1) v' (L++pre) rfl (H2.out.alloc _) Wb.heap.size 1 ys ye rfl (by simp) m HMm.out (by omega) (by simp;omega) ?_;intro gg cap w4 o4 g4 b4;have q4:=(g4.block M (by simp;omega) (fun e=>by have:=(H2.out.lt M e.symm).1;omega)).trans (old_at _ H1.out);have q5:=one_cell q4;have q6:=one_free q4;have O4:=hid o4;have G4:=hid g4;have B4:=hid b4;have Q4:=hid q4;clear o4 g4 b4 q4)
     all_goals gi_wp2
     have hkp:Kept (Sx R M w2.heap.size) Wb (w4.setCell ⟨M,0,none⟩ (.slice (some ⟨gg,0,none⟩) (m+1) cap)):=(((Kept.refl _ Wb).alloc _).grown G4.out (fun k e=>by
      rcases H3.out k e with q|q
      · exact .inl (.inl q)
      · exact .inl (.inr (.inr q)))).setCell ⟨M,0,none⟩ (.inl (.inr (.inl rfl))) _
     exact⟨(((KeepsOthers.alloc _ _).trans (KeepsOthers.of_grownBy G4.out (fun j ob e ho=>HT2.out _ (H2.out.alloc _) j ob e ho))).trans (KeepsOthers.setCell _ _ _)).from _,hkp,
      ⟨_,one_set Q4.out _,by rw[←qD];exact O4.out.at (fun g e=>za4 _ (by have:=(O4.out.lt g e).1;omega)),fun g e=>by
       obtain rfl:gg=g:=by simpa [Value.ownBlock] using e
       rcases B4.out with q|q
       · exact H3.out gg q
       · right;simp at q;omega⟩,keptSx_t HKb.out hkp⟩
    case done=>
     rintro D ys W4 hD rfl ⟨⟨v',m1,m2,m3⟩,mk⟩ hK;have H1:=hid m1;have H2:=hid m2;have HK4:=hid mk;have HKD:=hid hK
     have HPk:=hid (show ∀a c',(t<ni→a=some ⟨b,o+t,none⟩)→ni - t≤c'→PkS w M l (i+t) (ni - t) c' a v' (L++one x t) (D::Ds) W4 from fun a c' ha hc'=>by
      have hDs:∀D'∈Ds,D'<W.heap.size:=fun D' h=>(qW.1 (HS.out.mk' D' h).2).1
      refine⟨HDrop.out a (fun q=>⟨b,o,rfl,ha q⟩),hc',m1,m2,HTold.out,hlow,?_,List.nodup_cons.2 ⟨fun h=>by have:=hDs D h;omega,HS.out.nd⟩,fun D' h=> ?_⟩
      · exact(HS.out.bel.trans (HB2.out.mono HS.out.bel.size)).trans (mk.below (by omega) (fun j hj=>by rcases hj with hj|hj|hj<;>omega))
      · rcases List.mem_cons.1 h with rfl|h
        · exact⟨by omega,hK⟩
        · obtain⟨e1,e2⟩:=HS.out.mk' D' h
          have e3:=hDs D' h;refine⟨e1,(mk.block D' (by omega) (sx_no (by omega) (fun q=> ?_) (by omega))).trans ((HB2.out.block D' e3).trans e2)⟩;rcases HR2.out with g|g
          · omega
          · obtain⟨cs,hcs⟩:=HS.out.own.ty R g
            rw[←q,e2] at hcs;cases hcs)
     clear m1 m2 m3 mk hK gv gt htab;have hti:(t:Int)≤(ni:Int):=by omega
     have hcap:=HS.out.cap;gi_wp2
     · rename_i hct
       exact⟨⟨i+t,_,_,_,v',L++one x t,D::Ds,HPk.out _ _ (fun q=>absurd q (by omega)) (by omega),⟨rfl,rfl,rfl⟩,rfl⟩,by simp only[lenOf];omega⟩
     · exact⟨⟨i+t,_,_,_,v',L++one x t,D::Ds,HPk.out _ _ (fun _=>rfl) (by omega),⟨rfl,rfl,rfl⟩,rfl⟩,by simp only[lenOf];omega⟩
    case stop=>
     rintro D c pre W _ _ h _;exact h.elim
  · obtain rfl:ni=0:=by omega
    have d1:decide ((0:Int)<((0:Nat):Int))=false:=rfl;have s0:=one_cell hS.box;have hdr:l.drop i=[]:=List.eq_nil_of_length_eq_zero hS.row.leng;have htd:=hS.told;rw[hdr,z4b,List.append_nil] at htd
    have hres:∀g,v.ownBlock=some g→g∉Ds:=fun g e h=>by
     obtain⟨cs,hcs⟩:=HS.out.own.ty g e;rw[(HS.out.mk' g h).2] at hcs;cases hcs
    have HR:=hid hres;have HTd:=hid htd;clear hS hdr hlt hres htd;gi_wp2;refine z2v Ds W HS.out.nd (fun D h=>(HS.out.mk' D h).2) ?_
    refine⟨.tuple #[v,.int .i64 0],by simp[results,Tryz.results131,go_sem],v,rfl,?_,?_⟩
    · rw[←HTd.out]
      exact(HS.out.own.weak (by have:=HS.out.low;omega)).at (fun g e=>z42 Ds W g (HR.out g e))
    · exact HS.out.bel.trans (z43 Ds W _ (fun D h=>by have:=(HS.out.mk' D h).1;have:=HS.out.low;omega) HS.out.bel.size)
end Go.Proofs.YtacelhaidcmbcaaGreatDoor.U
