/- Texts of one place, one behind the other: P8ChG, P8ChH. -/
import Derived.Test.YtacelhaidcmbcaaGreatDoorTMP8ChB
import Derived.RangeFuncBox
import Derived.RangeFuncCalls
import Derived.RangeFuncLeaves
import Derived.RangeFuncWrites
import Derived.Shelf.Abstract
import Derived.OwnWalkIn
import Derived.TacticsInMore
import Derived.LoopNIn
import Derived.LoopIn
set_option maxHeartbeats 8000000
set_option maxRecDepth 1000000
set_option linter.unusedVariables false
set_option linter.unusedSimpArgs false
namespace Go.Proofs.YtacelhaidcmbcaaGreatDoor.V.Px
open Go.Lib (hid)
open Go Go.RowKit M
attribute [local go_sem] Oper.semAt_some
def z8h(n j:Nat):List Nat:=(List.range j).map fun i=>n - 1 - i
theorem z67(n j:Nat):z8h n (j+1)=z8h n j++[n - 1 - j]:=by simp[z8h,List.range_succ]
theorem z74(n j:Nat):(z8h n j).length=j:=by simp[z8h]
abbrev Ix(n:Nat):={i:Nat//i<n}
def ziD(n:Nat)(f:Nat→Int)(x:Ix n):Array Value:= #[.int .i64 (x.1:Int),.int .i64 (f x.1)]
def Sx(M n₁:Nat):Nat→Prop:=fun j=>j=M∨n₁≤j
theorem keptSx_t{M n₁:Nat}{A B C:World}(h:Kept (Sx M n₁) A B)(k:Kept (Sx M n₁) B C):Kept (Sx M n₁) A C:=h.trans k fun j hj=> .inl hj
theorem keptSx_b{M n₁:Nat}(W:World)(l:Nat)(o o':Obj)(hl:n₁≤l)(h:W.heap[l]? =some o):Kept (Sx M n₁) W (W.putObj l o'):=
 (Kept.refl _ W).grown (grownBy_putObj' W l o') (fun k e=>by cases e;exact .inl (.inr hl))
theorem zer(m l Bs M n₁ n c:Nat)(A:Option Addr)(f:Nat→Int)(hm:1≤m)(hn:n≤1048576)(hB1:Bs<n₁)(hB2:Bs≠M)(J Jx:List (Ix n)→World→Prop)
 (hY:∀pre x W,J pre W→pre.length<n→YieldAt Fence.wide (m - 1) Tryz.prog l (ziD n f x) W fun e W'=>
  (e=.returned (.bool true)∧J (pre++[x]) W'∧Kept (Sx M n₁) W W')∨(e=.returned (.bool false)∧Jx (pre++[x]) W'))
 (W:World) (hBs:W.cell? ⟨Bs,0,none⟩=some (.slice A n c)) (hc:0<n→∃b o,A=some ⟨b,o,none⟩∧b<n₁∧b≠M∧∀i,i<n→W.cell? ⟨b,o+i,none⟩=some (.int .i64 (f i))) (h0:J [] W):
 CallsIn Fence.wide m Tryz.prog 140 #[.func (.yield l) #[] #[],.pointer (some ⟨Bs,0,none⟩)] W fun e W'=>(∃v,e=.returned v)∧
  ((∃ys:List (Ix n),ys.map (·.1)=z8h n n∧J ys W')∨(∃pre:List (Ix n),(∃j,j≤n∧pre.map (·.1)=z8h n j)∧Jx pre W')):=by
 refine callsIn_of_wp Tryz.func140 rfl trivial ?_ rfl;simp only[Tryz.ntmps140,List.size_toArray,qC,List.length_nil,Nat.reduceAdd,Nat.reduceSub,Array.replicate_succ,Array.replicate_zero,List.push_toArray,List.append_toArray,List.nil_append,List.cons_append];gi_wp2
 gi_loopw [3] (fun i wr=> ∃ (r:Nat) (pre:List (Ix n)),r≤n∧((r=0∧i=.int .i64 (-1))∨(∃q,r=q+1∧i=.int .i64 q))∧pre.map (·.1)=z8h n (n - r)∧J pre wr∧Kept (Sx M n₁) W wr)
  (fun i _=>(intOf i+1).toNat)
 case atStart=>
  refine⟨n,[],qR,?_,by simp[z8h],h0,Kept.refl _ _⟩;cases n with
  |zero=>exact .inl ⟨rfl,by simp⟩
  |succ q=>exact .inr ⟨q,rfl,by go_num⟩
 case round=>
  obtain⟨r,pre,hr,hi,hp,hJs,hk⟩:=hrel;have hBs':wr.cell? ⟨Bs,0,none⟩=some (.slice A n c):=hk.cell hBs (fun g=>by rcases g with g|g;exact hB2 g;exact absurd hB1 (by simpa using g))
  have hlen:pre.length=n - r:=by
   have:=congrArg List.length hp
   rwa [List.length_map,z74] at this
  rcases hi with⟨rfl,rfl⟩|⟨q,rfl,rfl⟩
  · gi_wp2
    go_end0;exact⟨⟨_,rfl⟩,.inl ⟨pre,by rw[hp,Nat.sub_zero],hJs⟩⟩
  · have hqn:q<n:=by omega
    have hpl:pre.length<n:=by omega
    have hpos:0<n:=by omega
    obtain⟨b,o,rfl,hb1,hb2,hcs⟩:=hc hpos;have hcx:wr.cell? ⟨b,o+q,none⟩=some (.int .i64 (f q)):=hk.cell (hcs q hqn) (fun g=>by rcases g with g|g;exact hb2 g;exact absurd hb1 (by simpa using g));obtain⟨fn,tmps,assign,body,hy,hR⟩:=hY pre ⟨q,hqn⟩ wr hJs hpl;unfold ziD at hy;dsimp only at hy;obtain⟨y,hyy⟩:∃y,f q=y:=⟨_,rfl⟩
    rw[hyy] at hcx hy;have HK:=hid hk;have HP:=hid hp;have HL:=hid hlen;clear hk hc hcs hyy hBs hp hlen;gi_wp2;refine hR.mono ?_
    rintro e W3 (⟨rfl,hJ3,hk3⟩|⟨rfl,hJx3⟩)
    · gi_wp2
      go_roundw
      case rel=>exact⟨q,pre++[⟨q,hqn⟩],by omega,(by
       cases q with
       |zero=>exact .inl ⟨rfl,by simp⟩
       |succ q=>exact .inr ⟨q,rfl,by go_num⟩),(by
       rw[List.map_append,HP.out,show n - q=(n - (q+1))+1 by omega,z67];simp only[List.map_cons,List.map_nil];congr 2;omega),hJ3,keptSx_t HK.out hk3⟩
      case measure=>simp[intOf]
    · gi_wp2
      refine bodyPost_ret (results_none rfl _ _ _) rfl ?_
      exact⟨⟨_,rfl⟩,.inr ⟨pre++[⟨q,hqn⟩],⟨n - q,by omega,(by
       rw[List.map_append,HP.out,show n - q=(n - (q+1))+1 by omega,z67];simp only[List.map_cons,List.map_nil];congr 2;omega)⟩,hJx3⟩⟩
theorem zeq(A:Option Addr)(n c:Nat)(w:World):
 Calls Tryz.prog 117 #[.slice A n c] w fun e w'=>e=.returned (.func (.func 140) #[] #[.pointer (some ⟨w.heap.size,0,none⟩)])∧w'=w.alloc (.cells #[.slice A n c] 130):=by
 go_enter Tryz.func117,Tryz.ntmps117;go_wp2;go_ret;exact⟨rfl,rfl⟩
theorem z9z(m Bs M n₁ n c:Nat)(A:Option Addr)(f:Nat→Int)(hm:1≤m)(hn:n≤1048576)(w:World)(hB0:Bs<w.heap.size)(hB1:Bs<n₁)(hB2:Bs≠M)
 (hBs:w.cell? ⟨Bs,0,none⟩=some (.slice A n c)) (hc:0<n→∃b o,A=some ⟨b,o,none⟩∧b<n₁∧b≠M∧∀i,i<n→w.cell? ⟨b,o+i,none⟩=some (.int .i64 (f i))):
 SeqStopsK Fence.wide m Tryz.prog 140 #[.pointer (some ⟨Bs,0,none⟩)] (ziD n f) (Kept (Sx M n₁)) (fun ys=>ys.map (·.1)=z8h n n) (fun pre=> ∃j,j≤n∧pre.map (·.1)=z8h n j) n w:=fun l J Jx W hW _ _ hY h0=>by
 have hc':0<n→∃b o,A=some ⟨b,o,none⟩∧b<n₁∧b≠M∧∀i,i<n→W.cell? ⟨b,o+i,none⟩=some (.int .i64 (f i)):=fun hp=>by
  obtain⟨b,o,e1,e2,e3,e5⟩:=hc hp;exact⟨b,o,e1,e2,e3,fun i hi=>(hW.cell (p:=⟨b,o+i,none⟩) (qB (e5 i hi))).trans (e5 i hi)⟩
 exact zer m l Bs M n₁ n c A f hm hn hB1 hB2 J Jx hY W ((hW.cell (p:=⟨Bs,0,none⟩) hB0).trans hBs) hc' h0
end Go.Proofs.YtacelhaidcmbcaaGreatDoor.V.Px
namespace Go.Proofs.YtacelhaidcmbcaaGreatDoor.V.Px
open Go.Lib (hid)
open Go Go.RowKit M
attribute [local go_sem] Oper.semAt_some
def two(a b:Value)(i:Nat):Value:=if i=0 then a else b
def R2(w:World)(T:TypeId)(g:Nat)(a b:Value):Prop:=w.rowIs g T 2 (two a b)
section
variable {w w':World} {T:TypeId} {g:Nat} {a b:Value}
theorem R2.drewN(h:R2 w T g a b)(n:Nat):R2 (w.drewN n) T g a b:=h
theorem R2.lt(h:R2 w T g a b):g<w.heap.size:=World.rowIs.lt h
theorem R2.at0(h:R2 w T g a b):w.cell? ⟨g,0,none⟩=some a:=World.rowIs.cell h (i:=0) (by omega)
theorem R2.at1(h:R2 w T g a b):w.cell? ⟨g,1,none⟩=some b:=World.rowIs.cell h (i:=1) (by omega)
theorem R2.frozen(h:R2 w T g a b)(i:Nat):w.frozen? ⟨g,i,none⟩=false:=World.rowIs.frozen h i
theorem R2.put(h:R2 w T g a b)(c d:Value):R2 ((w.setCell ⟨g,0,none⟩ c).setCell ⟨g,1,none⟩ d) T g c d:=
 World.rowIs.congr (World.rowIs.set (World.rowIs.set h 0 c) 1 d) (fun j hj=>by
  match j,hj with
  |0,_=>rfl
  |1,_=>rfl)
theorem R2.below(h:R2 w T g a b){B:Nat}(hb:Below B w w')(hB:g<B):R2 w' T g a b:=World.rowIs.of_block h (hb.block g hB)
end
theorem R2.kept{S:Nat→Prop}{w w':World}{T:TypeId}{g:Nat}{a b:Value}(h:R2 w T g a b)(hk:Kept S w w')(hS:¬S g):R2 w' T g a b:=World.rowIs.of_block h (hk.block g h.lt hS)
theorem z84(W:World)(n:Nat):KeepsOthers W (W.drewN n):=⟨qR,fun k o hk _=>hk⟩
def Mid(w8:World)(M n₁:Nat)(s:ByteArray)(k:Nat)(nice over:Int)(vf:Nat→Nat)(n:Nat)(pre:List (Ix n))(W:World):Prop:=
 (∃mm:Nat×Nat,R2 W 68 M (.int .i64 mm.1) (.int .i64 mm.2)∧∀rest,fnd s k nice over (pre.map (fun x=>vf x.1)++rest) (0,0)=fnd s k nice over rest mm)∧Kept (Sx M n₁) w8 W
def Out(w8:World)(M n₁:Nat)(s:ByteArray)(k:Nat)(nice over:Int)(vf:Nat→Nat)(n:Nat)(c:Code)(pre:List (Ix n))(W:World):Prop:=
 (c=.exit 0∧∃mm:Nat×Nat,R2 W 68 M (.int .i64 mm.1) (.int .i64 mm.2)∧∀rest,fnd s k nice over (pre.map (fun x=>vf x.1)++rest) (0,0)=mm)∧Kept (Sx M n₁) w8 W
theorem zeJ{W W':World}{T:TypeId}{M n₁:Nat}{a b:Value}{row:Option Nat}(hM:M<n₁)(h:R2 W T M a b)(hg:W.grownBy W' row)(hr:∀r,row=some r→n₁≤r∧∃o:Obj,W.heap[r]? =some o∧o.isCells=false):R2 W' T M a b:=
 World.rowIs.of_block h (hg.block M h.lt (fun e=>by have:=(hr M e.symm).1;omega))
theorem z83{w8 W W':World}{M n₁:Nat}{row:Option Nat}(h:Kept (Sx M n₁) w8 W)(hg:W.grownBy W' row)(hr:∀r,row=some r→n₁≤r∧∃o:Obj,W.heap[r]? =some o∧o.isCells=false):Kept (Sx M n₁) w8 W':=
 h.grown hg (fun r e=> .inl (.inr (hr r e).1))
theorem Mid.own{w8:World}{M n₁:Nat}{s:ByteArray}{k:Nat}{nice over:Int}{vf:Nat→Nat}{n:Nat}(hM:M<n₁):OwnFrom n₁ (Mid w8 M n₁ s k nice over vf n):=fun pre W W' row hs hg hr=>by
 obtain⟨⟨mm,h1,h2⟩,h3⟩:=hs;exact⟨⟨mm,zeJ hM h1 hg hr,h2⟩,z83 h3 hg hr⟩
theorem Out.own{w8:World}{M n₁:Nat}{s:ByteArray}{k:Nat}{nice over:Int}{vf:Nat→Nat}{n:Nat}(hM:M<n₁)(c:Code):OwnFrom n₁ (Out w8 M n₁ s k nice over vf n c):=fun pre W W' row hs hg hr=>by
 obtain⟨⟨h0,mm,h1,h2⟩,h3⟩:=hs;exact⟨⟨h0,mm,zeJ hM h1 hg hr,h2⟩,z83 h3 hg hr⟩
theorem new_at(w:World)(o:Obj):(w.alloc o).heap[w.heap.size]? =some o:=heap_alloc_new w o
theorem old_at{w:World}{i:Nat}{x:Obj}(o:Obj)(h:w.heap[i]? =some x):(w.alloc o).heap[i]? =some x:=(Below.heap_alloc w o i (qW.1 h).1).trans h
theorem six(w:World)(o0 o1 o2 o3 o4 o5:Obj):∃W,((((((w.alloc o0).alloc o1).alloc o2).alloc o3).alloc o4).alloc o5)=W∧W.heap.size=w.heap.size+6∧Below w.heap.size w W∧
 W.heap[w.heap.size]? =some o0∧W.heap[w.heap.size+1]? =some o1∧W.heap[w.heap.size+2]? =some o2∧W.heap[w.heap.size+3]? =some o3∧W.heap[w.heap.size+4]? =some o4∧W.heap[w.heap.size+5]? =some o5:=by
 refine⟨_,rfl,by simp,(((((((Below.refl _ w).alloc qR o0).alloc (by simp) o1).alloc (by simp;omega) o2).alloc (by simp;omega) o3).alloc (by simp;omega) o4).alloc (by simp;omega) o5),?_,?_,?_,?_,?_,?_⟩
 · exact old_at _ (old_at _ (old_at _ (old_at _ (old_at _ (new_at _ _)))))
 · have:=new_at (w.alloc o0) o1
   rw[World.size_alloc] at this;exact old_at _ (old_at _ (old_at _ (old_at _ this)))
 · have:=new_at ((w.alloc o0).alloc o1) o2
   rw[World.size_alloc,World.size_alloc] at this;exact old_at _ (old_at _ (old_at _ this))
 · have:=new_at (((w.alloc o0).alloc o1).alloc o2) o3
   simp only[World.size_alloc] at this;exact old_at _ (old_at _ this)
 · have:=new_at ((((w.alloc o0).alloc o1).alloc o2).alloc o3) o4
   simp only[World.size_alloc] at this;exact old_at _ this
 · have:=new_at (((((w.alloc o0).alloc o1).alloc o2).alloc o3).alloc o4) o5
   simp only[World.size_alloc] at this;exact this
theorem zhK{W:World}{T:TypeId}{g:Nat}{a b:Value}(h:W.heap[g]? =some (.cells #[a,b] T (0,0))):R2 W T g a b:=⟨#[a,b],h,rfl,fun i hi=>by
 match i,hi with
 |0,_=>rfl
 |1,_=>rfl⟩
theorem one_cell{W:World}{T:TypeId}{g:Nat}{a:Value}(h:W.heap[g]? =some (.cells #[a] T (0,0))):W.cell? ⟨g,0,none⟩=some a:=by simp[World.cell?,h]
theorem z9N{l:List Nat}{j:Nat}(hj:j≤l.length):(z8h l.length j).map (fun i=>l.reverse.getD i 0)=l.take j:=by
 apply List.ext_getElem?
 intro i;unfold z8h;rw[List.map_map,List.getElem?_map,List.getElem?_take];by_cases c:i<j
 · rw[if_pos c,List.getElem?_range c]
   have h1:l.length - 1 - i<l.length:=by omega
   simp only[Option.map,Function.comp,List.getD];rw[List.getElem?_reverse h1,show l.length - 1 - (l.length - 1 - i)=i by omega,qE (show i<l.length by omega)];rfl
 · rw[if_neg c,List.getElem?_eq_none (by simp;omega)]
   rfl
theorem z7l{n:Nat}{vf:Nat→Nat}{ys:List (Ix n)}{js:List Nat}(h:ys.map (·.1)=js):ys.map (fun x=>vf x.1)=js.map vf:=by
 rw[←h,List.map_map];rfl
theorem zfr{l:List Nat}{n:Nat}(hn:l.length=n)(x:Ix n):l.reverse.getD x.1 0∈l:=by
 have hx:=x.2;rw[List.getD,qE (by rw[List.length_reverse];omega)];exact List.mem_reverse.1 (List.getElem_mem _)
section
variable {B F:Nat} {s:ByteArray} {L:List Nat} {la:Int} {w:World}
theorem zdZ(H:Fd w B F s L la)(k:Nat)(d nice over:Int)(hd2:d≤9223372036854775807):
 Calls Tryz.prog 90 #[.pointer (some ⟨F,0,none⟩),.int .i64 k,.int .i64 d,.int .i64 nice,.int .i64 over] w fun e w'=>
  e=.returned (.agg #[.int .i64 (fnd s k nice over (nr s L k d) (0,0)).1,.int .i64 (fnd s k nice over (nr s L k d) (0,0)).2])∧Below w.heap.size w w':=by
 have HH:=hid H;have hN:=zhU H k d;have HC:=hid (fun W' (hb:Below w.heap.size w W')=>zeb (H.below hb) k d hd2)
 have HMem:=hid (show ∀p,p∈nr s L k d→p<k∧k+3≤s.size∧3≤lng s p k from fun p hp=>by
  have h1:=zaU hp;have h2:=z5j h1;exact⟨h2.2.1,h2.2.2.2.1,z8k h1⟩)
 unfold z29 at HC;obtain⟨l,hl⟩:∃l,nr s L k d=l:=⟨_,rfl⟩
 rw[hl] at hN HC HMem ⊢;clear hl;obtain⟨n,hn⟩:∃n,l.length=n:=⟨_,rfl⟩
 rw[hn] at hN HC;obtain⟨vf,hvf⟩:∃vf:Nat→Nat,(fun i=>l.reverse.getD i 0)=vf:=⟨_,rfl⟩
 have hvf':∀i,l.reverse.getD i 0=vf i:=fun i=>congrFun hvf i
 have HV:=hid (show ∀j,j≤n→(z8h n j).map vf=l.take j from fun j hj=>by
  rw[←hn,←hvf];exact z9N (by omega))
 have HVM:=hid (show ∀x:Ix n,vf x.1∈l from fun x=>by
  rw[←hvf' x.1];exact zfr hn x)
 have HVF:=hid hvf';have HN:=hid hn;clear hn hvf hvf';refine(callsIn_wide (n:=5)).1 ?_
 refine callsIn_of_wp_marks Tryz.func90 rfl trivial ?_ rfl;simp only[Tryz.ntmps90,List.size_toArray,qC,List.length_nil,Nat.reduceAdd,Nat.reduceSub,Array.replicate_succ,Array.replicate_zero,List.push_toArray,List.append_toArray,List.nil_append,List.cons_append];clear H;gi_wp2;obtain⟨W6,hW,hsz,hb6,r0,r1,r2,r3,r4,r5⟩:=six w (.cells #[.pointer (some ⟨F,0,none⟩)] 88) (.cells #[.int .i64 k] 3) (.cells #[.int .i64 nice] 3) (.cells #[.int .i64 over] 3) (.cells #[.int .i64 0,.int .i64 0] 68) (.cells #[.int .i64 0,.int .i64 0] 68);rw[hW];clear hW;refine⟨trivial,?_⟩;refine(callsIn_wide.2 (HC.out _ hb6)).mono ?_
 rintro e w7 ⟨A,c,rfl,hA,b7⟩;have HA:=hid hA;have B7:=hid b7;have R0:=hid r0;have R1:=hid r1;have R2':=hid r2;have R3:=hid r3;have R4:=hid r4;have R5:=hid r5;have HB6:=hid hb6;clear hA b7 r0 r1 r2 r3 r4 r5 hb6
 gi_wp2_with (refine⟨trivial,?_⟩;gi_at_call 117;refine(callsIn_wide.2 (zeq _ _ _ _)).mono ?_;rintro e w' ⟨rfl,rfl⟩)
 have hs7:=B7.out.size;have hb8:Below W6.heap.size W6 (w7.alloc (.cells #[.slice A n c] 130)):=B7.out.alloc hs7 _;have hz8:(w7.alloc (.cells #[.slice A n c] 130)).heap.size=w7.heap.size+1:=by simp
 have hbx:(w7.alloc (.cells #[.slice A n c] 130)).cell? ⟨w7.heap.size,0,none⟩=some (.slice A n c):=one_cell (heap_alloc_new w7 _)
 have hA8:0<n→∃b o,A=some ⟨b,o,none⟩∧b<(w7.alloc (.cells #[.slice A n c] 130)).heap.size∧b≠w.heap.size+1+1+1+1+1∧∀i,i<n→(w7.alloc (.cells #[.slice A n c] 130)).cell? ⟨b,o+i,none⟩=some (.int .i64 (vf i:Int)):=fun hp=>by
  obtain⟨b,o,cur,e1,e2,e3⟩:=HA.out hp;have hbl:=(qW.1 e2).1;refine⟨b,o,e1,by rw[hz8];omega,fun e=> ?_,fun i hi=> ?_⟩
  · have q:=(B7.out.block (w.heap.size+5) (by omega)).trans R5.out
    have e':b=w.heap.size+5:=e;rw[e'] at e2;rw[e2] at q;injection q with q
    injection q with _ q _
    exact absurd q (by decide)
  · rw[cell_of_row _ _ _ _ _ _ (old_at _ e2)]
    rw[←HVF.out i];exact e3 i hi
 obtain⟨w8,hw8⟩:∃w8,w7.alloc (.cells #[.slice A n c] 130)=w8:=⟨_,rfl⟩
 rw[hw8] at hb8 hz8 hbx hA8 ⊢;have HB8:=hid (HB6.out.trans (hb8.mono HB6.out.size));have t0:w8.cell? ⟨w.heap.size,0,none⟩=some (.pointer (some ⟨F,0,none⟩)):=(hb8.cell (p:=⟨w.heap.size,0,none⟩) (by simp;omega)).trans (one_cell R0.out);have t1:w8.cell? ⟨w.heap.size+1,0,none⟩=some (.int .i64 k):=(hb8.cell (p:=⟨w.heap.size+1,0,none⟩) (by simp;omega)).trans (one_cell R1.out);have t2:w8.cell? ⟨w.heap.size+1+1,0,none⟩=some (.int .i64 nice):=(hb8.cell (p:=⟨w.heap.size+1+1,0,none⟩) (by simp;omega)).trans (one_cell R2'.out);have t3:w8.cell? ⟨w.heap.size+1+1+1,0,none⟩=some (.int .i64 over):=(hb8.cell (p:=⟨w.heap.size+1+1+1,0,none⟩) (by simp;omega)).trans (one_cell R3.out);have t4:R2 w8 68 (w.heap.size+1+1+1+1) (.int .i64 0) (.int .i64 0):=(zhK R4.out).below hb8 (by omega);have t5:R2 w8 68 (w.heap.size+1+1+1+1+1) (.int .i64 0) (.int .i64 0):=(zhK R5.out).below hb8 (by omega);have T0:=hid t0;have T1:=hid t1;have T2:=hid t2;have T3:=hid t3;have T4:=hid t4;have hsw:w.heap.size+6≤w8.heap.size:=by omega
 have hns:∀j,j<w8.heap.size→j≠w.heap.size+1+1+1+1+1→¬Sx (w.heap.size+1+1+1+1+1) w8.heap.size j:=fun j h1 h2 g=>by
  rcases g with g|g
  · exact h2 g
  · omega
 have HNS:=hid hns
 have HFd:=hid (show ∀W,Kept (Sx (w.heap.size+1+1+1+1+1) w8.heap.size) w8 W→Below w.heap.size w W from fun W hk=>
  HB8.out.trans (hk.below (by omega) (fun j hj=>by rcases hj with hj|hj<;>omega)))
 have hz8':w7.heap.size<w8.heap.size:=by omega
 have hw7:w.heap.size+6≤w7.heap.size:=by omega
 have HSZ:=hid hsz;clear t0 t1 t2 t3 t4 hns hw8 hz8 hsz
 refine wpIn_rangeFunc_ownG rfl (by omega) (gf:= 140) (lb:= #[.pointer (some ⟨w7.heap.size,0,none⟩)]) rfl trivial (enters_of Tryz.func140 (by kernel_rfl) rfl)
  (z9z 4 w7.heap.size (w.heap.size+1+1+1+1+1) w8.heap.size n c A (fun i=>(vf i:Int)) (by omega) hN w8 (by omega) (by omega) (by omega) hbx hA8)
  (fun h k=>keptSx_t h k) (fun W l o o' hl h _ _=>keptSx_b W l o o' hl h) (Below.refl _ _) (fun _=>rfl)
  (Mid w8 (w.heap.size+1+1+1+1+1) w8.heap.size s k nice over vf n) (Out w8 (w.heap.size+1+1+1+1+1) w8.heap.size s k nice over vf n) (Mid.own (by omega)) (Out.own (by omega))
  ⟨⟨(0,0),t5,fun rest=>rfl⟩,Kept.refl _ _⟩
  (fun x=> {tmps:= #[.pointer (some ⟨F,0,none⟩),.int .i64 k,.int .i64 d,.int .i64 nice,.int .i64 over,.pointer (some ⟨w.heap.size,0,none⟩),.pointer (some ⟨w.heap.size+1,0,none⟩),undef,.pointer (some ⟨w.heap.size+1+1,0,none⟩),.pointer (some ⟨w.heap.size+1+1+1,0,none⟩),.pointer (some ⟨w.heap.size+1+1+1+1,0,none⟩),.pointer (some ⟨w.heap.size+1+1+1+1+1,0,none⟩),undef,.int .i64 (vf x.1:Int),undef,.pointer (some ⟨F,0,none⟩),.int .i64 k,.int .i64 d,.slice A n c,.func (.func 140) #[] #[.pointer (some ⟨w7.heap.size,0,none⟩)],.int .i64 (x.1:Int),.int .i64 (vf x.1:Int),undef,undef,undef,undef,undef,undef,undef,undef,undef,undef,undef,undef,undef,undef,undef,undef,undef,undef,undef],defers:=[]}) ?assign ?body ?done ?stop
 case assign=>
  intro l x W K hK;unfold ziD;gi_wp2;exact hK
 case body=>
  rintro l' pre x W ⟨⟨mm,hR,hfn⟩,hk⟩ hlt;obtain⟨hp1,hp2,hp3⟩:=HMem.out _ (HVM.out x)
  have HFn:=hid (show ∀rest,fnd s k nice over ((pre++[x]).map (fun x=>vf x.1)++rest) (0,0)=fnd s k nice over (vf x.1::rest) mm from fun rest=>by
   rw[List.map_append,qD];exact hfn _)
  obtain⟨p,hp⟩:∃p,vf x.1=p:=⟨_,rfl⟩
  rw[hp] at hp1 hp3 HFn ⊢;have HAl:=hid (alike_any (HH.out.below (HFd.out W hk)) p k hp1 hp2 hp3);obtain⟨z,hz⟩:∃z,lng s p k=z:=⟨_,rfl⟩
  rw[hz] at HAl;have HZ:=hid hz;have hzl:=(zbb s p k).1;rw[hz] at hzl;obtain⟨y,hy⟩:∃y:Nat,k - p=y:=⟨_,rfl⟩
  have e1:(k:Int) - (p:Int)=(y:Int):=by omega
  have hkl:k≤1048576:=by have:=HH.out.len;omega
  have HY:=hid hy;have m0:=hR.at0;have m1:=hR.at1;have mf0:=hR.frozen 0;have mf1:=hR.frozen 1;have n0:=hk.cell T0.out (HNS.out _ (by simp;omega) (by simp;omega));have n1:=hk.cell T1.out (HNS.out _ (by simp;omega) (by simp));have n2:=hk.cell T2.out (HNS.out _ (by simp;omega) (by simp));have n3:=hk.cell T3.out (HNS.out _ (by simp;omega) (by simp));obtain⟨ml,md⟩:=mm;simp only at m0 m1 hR;obtain⟨mx,hmx⟩:∃mx:Int,(if over<(ml:Int) then(ml:Int) else over)=mx:=⟨_,rfl⟩
  have hmx2:mx=max over (ml:Int):=by
   rw[←hmx];by_cases c:over<(ml:Int)
   · rw[if_pos c];omega
   · rw[if_neg c];omega
  have HMX:=hid hmx2;have HK:=hid hk;have HR:=hid hR;clear hk hR hfn hz hy hp hmx2 hA8 hbx t5;by_cases q1:mx<(z:Int)
  · have HS:Hid (stp s k over (ml,md) p=(z,y)):=hid (by
     have:=HMX.out;unfold stp;rw[HZ.out,if_pos ⟨by omega,by simp only;omega⟩,HY.out])
    have d1:decide (mx<(z:Int))=true:=q9T q1;by_cases q2:nice≤(z:Int)
    · skip
      have d2:decide (nice≤(z:Int))=true:=q9T q2
      have HE:Hid (∀rest,fnd s k nice over ((pre++[x]).map (fun x=>vf x.1)++rest) (0,0)=(z,y)):=hid fun rest=>by
       rw[HFn.out rest,zby s k nice over p rest (ml,md) (by rw[HZ.out];exact q2),HS.out]
      gi_wp2;refine⟨trivial,?_⟩;refine(CallsIn.inRound l' (callsIn_wide.2 HAl.out)).mono ?_;rintro e w' ⟨rfl,nq,rfl⟩;gi_wp2;exact⟨(((z84 W nq).trans (KeepsOthers.setCell _ _ _)).trans (KeepsOthers.setCell _ _ _)).from _,⟨rfl,(z,y),(HR.out.drewN nq).put _ _,HE.out⟩,(((HK.out.drewN nq).setCell ⟨w.heap.size+1+1+1+1+1,0,none⟩ (.inl (.inl rfl)) _).setCell ⟨w.heap.size+1+1+1+1+1,1,none⟩ (.inl (.inl rfl)) _)⟩
    · skip
      have d2:decide (nice≤(z:Int))=false:=qF q2
      have HE:Hid (∀rest,fnd s k nice over ((pre++[x]).map (fun x=>vf x.1)++rest) (0,0)=fnd s k nice over rest (z,y)):=hid fun rest=>by
       rw[HFn.out rest,zf0 s k nice over p rest (ml,md) (by rw[HZ.out];exact q2),HS.out]
      gi_wp2;refine⟨trivial,?_⟩;refine(CallsIn.inRound l' (callsIn_wide.2 HAl.out)).mono ?_;rintro e w' ⟨rfl,nq,rfl⟩;gi_wp2;exact⟨(((z84 W nq).trans (KeepsOthers.setCell _ _ _)).trans (KeepsOthers.setCell _ _ _)).from _,((((Kept.refl _ W).drewN nq).setCell ⟨w.heap.size+1+1+1+1+1,0,none⟩ (.inl (.inl rfl)) _).setCell ⟨w.heap.size+1+1+1+1+1,1,none⟩ (.inl (.inl rfl)) _),⟨(z,y),(HR.out.drewN nq).put _ _,HE.out⟩,(((HK.out.drewN nq).setCell ⟨w.heap.size+1+1+1+1+1,0,none⟩ (.inl (.inl rfl)) _).setCell ⟨w.heap.size+1+1+1+1+1,1,none⟩ (.inl (.inl rfl)) _)⟩
  · have HS:Hid (stp s k over (ml,md) p=(ml,md)):=hid (by
     have:=HMX.out;unfold stp;rw[HZ.out,if_neg (fun q=>by have:=q.1;have:=q.2;simp only at this;omega)])
    have d1:decide (mx<(z:Int))=false:=qF q1;by_cases q2:nice≤(z:Int)
    · skip
      have d2:decide (nice≤(z:Int))=true:=q9T q2
      have HE:Hid (∀rest,fnd s k nice over ((pre++[x]).map (fun x=>vf x.1)++rest) (0,0)=(ml,md)):=hid fun rest=>by
       rw[HFn.out rest,zby s k nice over p rest (ml,md) (by rw[HZ.out];exact q2),HS.out]
      gi_wp2;refine⟨trivial,?_⟩;refine(CallsIn.inRound l' (callsIn_wide.2 HAl.out)).mono ?_;rintro e w' ⟨rfl,nq,rfl⟩;gi_wp2;exact⟨(z84 W nq).from _,⟨rfl,(ml,md),HR.out.drewN nq,HE.out⟩,(HK.out.drewN nq)⟩
    · skip
      have d2:decide (nice≤(z:Int))=false:=qF q2
      have HE:Hid (∀rest,fnd s k nice over ((pre++[x]).map (fun x=>vf x.1)++rest) (0,0)=fnd s k nice over rest (ml,md)):=hid fun rest=>by
       rw[HFn.out rest,zf0 s k nice over p rest (ml,md) (by rw[HZ.out];exact q2),HS.out]
      gi_wp2;refine⟨trivial,?_⟩;refine(CallsIn.inRound l' (callsIn_wide.2 HAl.out)).mono ?_;rintro e w' ⟨rfl,nq,rfl⟩;gi_wp2;exact⟨(z84 W nq).from _,((Kept.refl _ W).drewN nq),⟨(ml,md),HR.out.drewN nq,HE.out⟩,(HK.out.drewN nq)⟩
 case done=>
  rintro D ys W hD hS ⟨⟨mm,hR,hfn⟩,hk⟩ hK
  have HE:Hid (fnd s k nice over l (0,0)=mm):=hid (by
   have h1:=hfn [];rw[List.append_nil,z7l hS,HV.out n qR,List.take_of_length_le (by rw[HN.out];exact qR)] at h1;exact h1)
  have m0:=hR.at0;have m1:=hR.at1;have hG:=T4.out.kept hk (HNS.out _ (by omega) (by omega));have g0:=hG.at0;have g1:=hG.at1;have gf0:=hG.frozen 0;have gf1:=hG.frozen 1;obtain⟨ml,md⟩:=mm;simp only at m0 m1 hR;have HP:=hid (hG.put (.int .i64 ml) (.int .i64 md));have HB:=hid (HFd.out W hk);have HKd:=hid hK;clear hS hfn hk hR hG hA8 hbx t5 hK;gi_wp2;have hK':=(((KeepsOthers.setCell W ⟨w.heap.size+1+1+1+1,0,none⟩ (.int .i64 ml)).trans (KeepsOthers.setCell _ ⟨w.heap.size+1+1+1+1,1,none⟩ (.int .i64 md)))).same D _ HKd.out rfl;refine⟨by simp,.inl ⟨_,_,rfl,run_takeDeferred hK',?_⟩⟩;have hc5:=cell_kept HP.out.at0 (grownBy_putObj' _ D (.deferred none)) (fun r e=>by cases e;exact⟨_,hK',rfl⟩);have hc6:=cell_kept HP.out.at1 (grownBy_putObj' _ D (.deferred none)) (fun r e=>by cases e;exact⟨_,hK',rfl⟩);refine⟨.agg #[.int .i64 ml,.int .i64 md],?_,by rw[HE.out],((HB.out.setCell (p:=⟨w.heap.size+1+1+1+1,0,none⟩) (by simp;omega) _).setCell (p:=⟨w.heap.size+1+1+1+1,1,none⟩) (by simp;omega) _).trans (belowK_b (w:=w) qR _ D _ _ (by omega) hK' rfl rfl)⟩;simp[results,Tryz.f90,go_sem,hc5,hc6]
 case stop=>
  rintro D c pre W hD ⟨j,hj,hS⟩ ⟨⟨rfl,mm,hR,hfn⟩,hk⟩ hK
  have HE:Hid (fnd s k nice over l (0,0)=mm):=hid (by
   have h1:=hfn (l.drop j);rw[z7l hS,HV.out j hj,List.take_append_drop] at h1;exact h1)
  have m0:=hR.at0;have m1:=hR.at1;have hG:=T4.out.kept hk (HNS.out _ (by omega) (by omega));have g0:=hG.at0;have g1:=hG.at1;have gf0:=hG.frozen 0;have gf1:=hG.frozen 1;obtain⟨ml,md⟩:=mm;simp only at m0 m1 hR;have HP:=hid (hG.put (.int .i64 ml) (.int .i64 md));have HB:=hid (HFd.out W hk);have HKd:=hid hK;clear hS hfn hk hR hG hA8 hbx t5 hK;gi_wp2;have hK':=(((KeepsOthers.setCell W ⟨w.heap.size+1+1+1+1,0,none⟩ (.int .i64 ml)).trans (KeepsOthers.setCell _ ⟨w.heap.size+1+1+1+1,1,none⟩ (.int .i64 md)))).same D _ HKd.out rfl;refine⟨by simp,.inl ⟨_,_,rfl,run_takeDeferred hK',?_⟩⟩;have hc5:=cell_kept HP.out.at0 (grownBy_putObj' _ D (.deferred none)) (fun r e=>by cases e;exact⟨_,hK',rfl⟩);have hc6:=cell_kept HP.out.at1 (grownBy_putObj' _ D (.deferred none)) (fun r e=>by cases e;exact⟨_,hK',rfl⟩);refine⟨.agg #[.int .i64 ml,.int .i64 md],?_,by rw[HE.out],((HB.out.setCell (p:=⟨w.heap.size+1+1+1+1,0,none⟩) (by simp;omega) _).setCell (p:=⟨w.heap.size+1+1+1+1,1,none⟩) (by simp;omega) _).trans (belowK_b (w:=w) qR _ D _ _ (by omega) hK' rfl rfl)⟩;simp[results,Tryz.f90,go_sem,hc5,hc6]
end
end Go.Proofs.YtacelhaidcmbcaaGreatDoor.V.Px
