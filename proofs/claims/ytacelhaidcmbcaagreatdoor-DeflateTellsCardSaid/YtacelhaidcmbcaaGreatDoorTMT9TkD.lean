/- Texts of one place, one behind the other: T9TkD, T9TkE. -/
import Derived.Test.YtacelhaidcmbcaaGreatDoorTMT9Tok
import Derived.Laws.StructEq
import Derived.RangeFuncNested
import Derived.RangeFuncBox
import Derived.RangeFuncCalls
import Derived.RangeFuncLeaves
import Derived.RangeFuncWrites
import Derived.Shelf.Abstract
import Derived.OwnWalkIn
import Derived.TacticsInMore
import Derived.LoopNIn
import Derived.LoopIn
import Derived.RegionIn
import Derived.Shelf.RegionOpen
set_option maxHeartbeats 8000000
set_option maxRecDepth 1000000
set_option linter.unusedVariables false
set_option linter.unusedSimpArgs false
namespace Go.Proofs.YtacelhaidcmbcaaGreatDoor.V.Tx
open Go.Lib (hid)
open Go Go.RowKit M
attribute [local go_sem] Oper.semAt_some
abbrev Ix(n:Nat):={i:Nat//i<n}
def ziE(T:Nat→Tk){n:Nat}(x:Ix n):Array Value:= #[.agg #[.int .u8 (T x.1).l,.int .i64 (T x.1).n,.int .i64 (T x.1).d]]
def Sx(R M n₁:Nat):Nat→Prop:=fun j=>j=R∨j=M∨n₁≤j
theorem keptSx_t{R M n₁:Nat}{A B C:World}(h:Kept (Sx R M n₁) A B)(k:Kept (Sx R M n₁) B C):Kept (Sx R M n₁) A C:=h.trans k fun j hj=> .inl hj
theorem keptSx_b{R M n₁:Nat}(W:World)(l:Nat)(o o':Obj)(hl:n₁≤l)(h:W.heap[l]? =some o):Kept (Sx R M n₁) W (W.putObj l o'):=
 (Kept.refl _ W).grown (grownBy_putObj' W l o') (fun k e=>by cases e;exact .inl (.inr (.inr hl)))
theorem sx_no{R M n₁ j:Nat}(h1:j<n₁)(h2:j≠R)(h3:j≠M):¬Sx R M n₁ j:=fun g=>by
 rcases g with g|g|g
 · exact h2 g
 · exact h3 g
 · omega
theorem zcy(m l Bs R M n₁ n c:Nat)(A:Option Addr)(T:Nat→Tk)(hm:1≤m)(hn:n≤1048576)(hB1:Bs<n₁)(hB2:Bs≠R)(hB3:Bs≠M)(W0:World)(hn1:n₁≤W0.heap.size)(J Jx:List (Ix n)→World→Prop)(hJ:AbidesFrom W0.heap.size J)
 (hY:∀pre x W,J pre W→pre.length<n→YieldAt Fence.wide (m - 1) Tryz.prog l (ziE T x) W fun e W'=>
  (e=.returned (.bool true)∧J (pre++[x]) W'∧Kept (Sx R M n₁) W W')∨(e=.returned (.bool false)∧Jx (pre++[x]) W'))
 (hBs:W0.cell? ⟨Bs,0,none⟩=some (.slice A n c)) (hc:0<n→∃b o,A=some ⟨b,o,none⟩∧b<n₁∧b≠R∧b≠M∧∀i,i<n→W0.cell? ⟨b,o+i*3,none⟩=some (.int .u8 (T i).l)∧W0.cell? ⟨b,o+i*3+1,none⟩=some (.int .i64 (T i).n)∧W0.cell? ⟨b,o+i*3+2,none⟩=some (.int .i64 (T i).d)) (h0:J [] W0):
 CallsIn Fence.wide m Tryz.prog 120 #[.func (.yield l) #[] #[],.pointer (some ⟨Bs,0,none⟩)] W0 fun e W'=>(∃v,e=.returned v)∧
  ((∃ys:List (Ix n),ys.map (·.1)=List.range n∧J ys W')∨(∃pre:List (Ix n),(∃j,j≤n∧pre.map (·.1)=List.range j)∧Jx pre W')):=by
 refine callsIn_of_wp Tryz.func120 rfl trivial ?_ rfl;simp only[Tryz.ntmps120,List.size_toArray,qC,List.length_nil,Nat.reduceAdd,Nat.reduceSub,Array.replicate_succ,Array.replicate_zero,List.push_toArray,List.append_toArray,List.nil_append,List.cons_append];gi_wp2
 gi_loopw [7] (fun i wr=> ∃ (k:Nat) (pre:List (Ix n)),k≤n∧i=.int .i64 k∧pre.map (·.1)=List.range k∧J pre wr∧Kept (Sx R M n₁) W0 wr)
  (fun i _=>n - (intOf i).toNat)
 case atStart=>exact⟨0,[],qZ,rfl,rfl,h0,Kept.refl _ _⟩
 case round=>
  obtain⟨k,pre,hk,rfl,hp,hJs,hkp⟩:=hrel
  have hlen:pre.length=k:=by
   have:=congrArg List.length hp
   rwa [List.length_map,List.length_range] at this
  by_cases hlt:k<n
  · have hpl:pre.length<n:=by omega
    obtain⟨b,o,rfl,hb1,hb2,hb3,hcs⟩:=hc (by omega);obtain⟨c0,c1,c2⟩:=hcs k hlt;have d0:wr.cell? ⟨b,o+k*3,none⟩=some (.int .u8 (T k).l):=hkp.cell c0 (sx_no hb1 hb2 hb3);have d1:wr.cell? ⟨b,o+k*3+1,none⟩=some (.int .i64 (T k).n):=hkp.cell c1 (sx_no hb1 hb2 hb3);have d2:wr.cell? ⟨b,o+k*3+2,none⟩=some (.int .i64 (T k).d):=hkp.cell c2 (sx_no hb1 hb2 hb3);obtain⟨t,ht⟩:∃t,T k=t:=⟨_,rfl⟩
    have hk2:k<9223372036854775807:=by omega
    rw[ht] at d0 d1 d2;have hT:=ht;obtain⟨tl,tn,td⟩:=t;simp only at d0 d1 d2;have hka:Kept (Sx R M n₁) wr (wr.alloc (.cells #[.int .u8 tl,.int .i64 tn,.int .i64 td] 64)):=(Kept.refl _ _).alloc _;have hJa:J pre (wr.alloc (.cells #[.int .u8 tl,.int .i64 tn,.int .i64 td] 64)):=hJ pre wr _ none hJs ⟨rfl,rfl,rfl,by simp,fun k hk _=>Below.heap_alloc _ _ _ hk⟩ (fun r e=>by cases e);obtain⟨fn,tmps,assign,body,hy,hR⟩:=hY pre ⟨k,hlt⟩ _ hJa hpl;unfold ziE at hy;dsimp only at hy;rw[hT] at hy;have HK:=hid (keptSx_t hkp hka);have HP:=hid hp;clear hkp hc hcs hBs hp hlen c0 c1 c2 hJs h0 ht hY hJ hT hJa hka;gi_wp2;refine hR.mono ?_
    rintro e W3 (⟨rfl,hJ3,hk3⟩|⟨rfl,hJx3⟩)
    · gi_wp2
      go_roundw
      case rel=>exact⟨k+1,pre++[⟨k,hlt⟩],by omega,by go_num,by rw[List.map_append,HP.out,List.range_succ];rfl,hJ3,keptSx_t HK.out hk3⟩
      case measure=>simp[intOf];omega
    · gi_wp2
      refine bodyPost_ret (results_none rfl _ _ _) rfl ?_
      exact⟨⟨_,rfl⟩,.inr ⟨pre++[⟨k,hlt⟩],⟨k+1,by omega,by rw[List.map_append,HP.out,List.range_succ];rfl⟩,hJx3⟩⟩
  · obtain rfl:k=n:=by omega
    have HP:=hid hp;clear hp hlen;gi_wp2;go_end0;exact⟨⟨_,rfl⟩,.inl ⟨pre,HP.out,hJs⟩⟩
theorem zcx(A:Option Addr)(n c:Nat)(w:World):
 Calls Tryz.prog 93 #[.slice A n c] w fun e w'=>e=.returned (.func (.func 120) #[] #[.pointer (some ⟨w.heap.size,0,none⟩)])∧w'=w.alloc (.cells #[.slice A n c] 29):=by
 go_enter Tryz.func93,Tryz.ntmps93;go_wp2;go_ret;exact⟨rfl,rfl⟩
theorem z8F(m Bs R M n₁ n c:Nat)(A:Option Addr)(T:Nat→Tk)(hm:1≤m)(hn:n≤1048576)(w:World)(hn1:n₁≤w.heap.size)(hB1:Bs<n₁)(hB2:Bs≠R)(hB3:Bs≠M)
 (hBs:w.cell? ⟨Bs,0,none⟩=some (.slice A n c)) (hc:0<n→∃b o,A=some ⟨b,o,none⟩∧b<n₁∧b≠R∧b≠M∧∀i,i<n→w.cell? ⟨b,o+i*3,none⟩=some (.int .u8 (T i).l)∧w.cell? ⟨b,o+i*3+1,none⟩=some (.int .i64 (T i).n)∧w.cell? ⟨b,o+i*3+2,none⟩=some (.int .i64 (T i).d)):
 SeqStopsK Fence.wide m Tryz.prog 120 #[.pointer (some ⟨Bs,0,none⟩)] (ziE T (n:=n)) (Kept (Sx R M n₁)) (fun ys=>ys.map (·.1)=List.range n) (fun pre=> ∃j,j≤n∧pre.map (·.1)=List.range j) n w:=fun l J Jx W hW hJ _ hY h0=>by
 have hc':0<n→∃b o,A=some ⟨b,o,none⟩∧b<n₁∧b≠R∧b≠M∧∀i,i<n→W.cell? ⟨b,o+i*3,none⟩=some (.int .u8 (T i).l)∧W.cell? ⟨b,o+i*3+1,none⟩=some (.int .i64 (T i).n)∧W.cell? ⟨b,o+i*3+2,none⟩=some (.int .i64 (T i).d):=fun hp=>by
  obtain⟨b,o,e1,e2,e3,e4,e5⟩:=hc hp;have hb:b<w.heap.size:=by omega
  exact⟨b,o,e1,e2,e3,e4,fun i hi=>⟨(hW.cell (p:=⟨b,o+i*3,none⟩) hb).trans (e5 i hi).1,(hW.cell (p:=⟨b,o+i*3+1,none⟩) hb).trans (e5 i hi).2.1,(hW.cell (p:=⟨b,o+i*3+2,none⟩) hb).trans (e5 i hi).2.2⟩⟩
 exact zcy m l Bs R M n₁ n c A T hm hn hB1 hB2 hB3 W (qK hn1 hW.size) J Jx hJ hY ((hW.cell (p:=⟨Bs,0,none⟩) (by show Bs<_;omega)).trans hBs) hc' h0
end Go.Proofs.YtacelhaidcmbcaaGreatDoor.V.Tx
namespace Go.Proofs.YtacelhaidcmbcaaGreatDoor.V.Tx
open Go.Lib (hid)
open Go Go.RowKit M
attribute [local go_sem] Oper.semAt_some
theorem new_at(w:World)(o:Obj):(w.alloc o).heap[w.heap.size]? =some o:=heap_alloc_new w o
theorem old_at{w:World}{i:Nat}{x:Obj}(o:Obj)(h:w.heap[i]? =some x):(w.alloc o).heap[i]? =some x:=(Below.heap_alloc w o i (qW.1 h).1).trans h
theorem one_cell{W:World}{T:TypeId}{g:Nat}{a:Value}(h:W.heap[g]? =some (.cells #[a] T (0,0))):W.cell? ⟨g,0,none⟩=some a:=by simp[World.cell?,h]
theorem one_free{W:World}{T:TypeId}{g:Nat}{a:Value}(h:W.heap[g]? =some (.cells #[a] T (0,0))):W.frozen? ⟨g,0,none⟩=false:=by simp[World.frozen?,h]
theorem one_set{W:World}{T:TypeId}{g:Nat}{a:Value}(h:W.heap[g]? =some (.cells #[a] T (0,0)))(b:Value):(W.setCell ⟨g,0,none⟩ b).heap[g]? =some (.cells #[b] T (0,0)):=by
 rw[setCell_eq_setRow W g 0 #[a] T (0,0) b h];exact setRow_heap W g #[a] #[b] T (0,0) h
theorem z6Q{W W':World}(h:Below W.heap.size W W'):KeepsOthers W W':=⟨h.size,fun k o hk _=>(h.block k (qW.1 hk).1).trans hk⟩
def toks(T:Nat→Tk){n:Nat}(pre:List (Ix n)):List Tk:=pre.map fun x=>T x.1
theorem z9S(T:Nat→Tk){n:Nat}(pre:List (Ix n))(x:Ix n):toks T (pre++[x])=toks T pre++[T x.1]:=by simp[toks]
theorem z6u(T:Nat→Tk){n:Nat}(pre:List (Ix n)):(toks T pre).length=pre.length:=by simp[toks]
theorem z9R{L:List Tk}{n j:Nat}{pre:List (Ix n)}(hl:L.length=n)(hj:j≤n)(h:pre.map (·.1)=List.range j):toks (fun i=>L.getD i default) pre=L.take j:=by
 have e:toks (fun i=>L.getD i default) pre=(List.range j).map fun i=>L.getD i default:=by rw[←h,List.map_map];rfl
 rw[e];apply List.ext_getElem?
 intro i;rw[List.getElem?_map,List.getElem?_take];by_cases c:i<j
 · rw[List.getElem?_range c,if_pos c]
   show some (L.getD i default)=_
   rw[List.getD,qE (by omega)];rfl
 · rw[if_neg c,List.getElem?_eq_none (by simp;omega)];rfl
def MidS(w2:World)(n₀ n₁:Nat)(T:Nat→Tk)(n:Nat)(pre:List (Ix n))(W:World):Prop:=
 W.heap[n₀]? =some (.cells #[.int .i64 (szs (toks T pre):Nat)] 3 (0,0))∧Kept (Sx n₀ n₀ n₁) w2 W
theorem MidS.own{w2:World}{n₀ n₁:Nat}{T:Nat→Tk}{n:Nat}(h0:n₀<n₁):OwnFrom n₁ (MidS w2 n₀ n₁ T n):=fun pre W W' row hs hg hr=>by
 obtain⟨h1,h2⟩:=hs;have hlt:=(qW.1 h1).1;exact⟨(hg.block n₀ hlt (fun e=>by have:=(hr n₀ e.symm).1;omega)).trans h1,h2.grown hg (fun r e=> .inl (.inr (.inr (hr r e).1)))⟩
def AxS(n₁:Nat)(T:Nat→Tk){n:Nat}(f:Ix n→Nat→Act)(x:Ix n)(a':Act)(W:World):Prop:=
 ∃Bx,n₁≤Bx∧R3 W 64 Bx (.int .u8 (T x.1).l) (.int .i64 (T x.1).n) (.int .i64 (T x.1).d)∧a'=f x Bx
theorem AxS.own{n₁:Nat}{T:Nat→Tk}{n:Nat}{f:Ix n→Nat→Act}{x:Ix n}{a':Act}:OwnFrom n₁ (fun(_:Unit) W=>AxS n₁ T f x a' W):=fun _ W W' row hs hg hr=>by
 obtain⟨Bx,h1,h2,h3⟩:=hs;refine⟨Bx,h1,h2.of_block (hg.block Bx h2.lt (fun e=> ?_)),h3⟩;obtain⟨_,o,ho,hc⟩:=hr Bx e.symm;obtain⟨cur,hb,_⟩:=h2;rw[hb] at ho;cases ho
 cases hc
theorem size_any(A:Option Addr)(n c:Nat)(L:List Tk)(w:World)(h:IsTks w A n L)(hn:n≤1000000):
 Calls Tryz.prog 63 #[.slice A n c] w fun e w'=>e=.returned (.int .i64 (szs L:Nat))∧Below w.heap.size w w':=by
 have hl:=h.leng;obtain⟨T,hT⟩:∃T:Nat→Tk,(fun i=>L.getD i default)=T:=⟨_,rfl⟩
 have hTk:=fun(j:Nat) (pre:List (Ix n)) (hj:j≤n) (hp:pre.map (·.1)=List.range j)=>z9R hl hj hp
 rw[hT] at hTk;have HTk:=hid hTk;have HL:=hid (show L.take n=L from List.take_of_length_le (by omega))
 have HH:=hid (show 0<n→∃b o,A=some ⟨b,o,none⟩∧b<w.heap.size∧∀i,i<n→w.cell? ⟨b,o+i*3,none⟩=some (.int .u8 (T i).l)∧w.cell? ⟨b,o+i*3+1,none⟩=some (.int .i64 (T i).n)∧w.cell? ⟨b,o+i*3+2,none⟩=some (.int .i64 (T i).d) from fun hp=>by
  obtain⟨b,o,e1,e2,e3⟩:=h.at hp;exact⟨b,o,e1,e2,fun i hi=>by rw[←hT];exact e3 i hi⟩)
 clear h hTk hT hl;refine(callsIn_wide (n:=5)).1 ?_
 refine callsIn_of_wp_marks Tryz.func63 rfl trivial ?_ rfl;simp only[Tryz.ntmps63,List.size_toArray,qC,List.length_nil,Nat.reduceAdd,Nat.reduceSub,Array.replicate_succ,Array.replicate_zero,List.push_toArray,List.append_toArray,List.nil_append,List.cons_append]
 gi_wp2_with (refine⟨trivial,?_⟩;gi_at_call 93;refine(callsIn_wide.2 (zcx _ _ _ _)).mono ?_;rintro e w' ⟨rfl,rfl⟩)
 have hz2:((w.alloc (.cells #[.int .i64 0] 3)).alloc (.cells #[.slice A n c] 29)).heap.size=w.heap.size+1+1:=by simp
 have hb2:Below w.heap.size w ((w.alloc (.cells #[.int .i64 0] 3)).alloc (.cells #[.slice A n c] 29)):=((Below.refl _ w).alloc qR _).alloc (by simp) _;have g0:((w.alloc (.cells #[.int .i64 0] 3)).alloc (.cells #[.slice A n c] 29)).heap[w.heap.size]? =some (.cells #[.int .i64 0] 3 (0,0)):=old_at _ (new_at _ _)
 have g1:((w.alloc (.cells #[.int .i64 0] 3)).alloc (.cells #[.slice A n c] 29)).heap[w.heap.size+1]? =some (.cells #[.slice A n c] 29 (0,0)):=by
  have:=new_at (w.alloc (.cells #[.int .i64 0] 3)) (.cells #[.slice A n c] 29);rw[World.size_alloc] at this;exact this
 obtain⟨w2,hw2⟩:∃w2,(w.alloc (.cells #[.int .i64 0] 3)).alloc (.cells #[.slice A n c] 29)=w2:=⟨_,rfl⟩
 rw[hw2] at hz2 hb2 g0 g1 ⊢;clear hw2
 have hA:0<n→∃b o,A=some ⟨b,o,none⟩∧b<w2.heap.size∧b≠w.heap.size∧b≠w.heap.size∧∀i,i<n→w2.cell? ⟨b,o+i*3,none⟩=some (.int .u8 (T i).l)∧w2.cell? ⟨b,o+i*3+1,none⟩=some (.int .i64 (T i).n)∧w2.cell? ⟨b,o+i*3+2,none⟩=some (.int .i64 (T i).d):=fun hp=>by
  obtain⟨b,o,e1,e2,e3⟩:=HH.out hp;exact⟨b,o,e1,by omega,by omega,by omega,fun i hi=>⟨(hb2.cell (p:=⟨b,o+i*3,none⟩) e2).trans (e3 i hi).1,(hb2.cell (p:=⟨b,o+i*3+1,none⟩) e2).trans (e3 i hi).2.1,(hb2.cell (p:=⟨b,o+i*3+2,none⟩) e2).trans (e3 i hi).2.2⟩⟩
 have HB2:=hid hb2;have HZ2:=hid hz2;have hz2':w.heap.size<w2.heap.size:=by omega
 have HFd:=hid (show ∀W,Kept (Sx w.heap.size w.heap.size w2.heap.size) w2 W→Below w.heap.size w W from fun W hk=>
  HB2.out.trans (hk.below (by omega) (fun j hj=>by rcases hj with hj|hj|hj<;>omega)))
 clear hb2 HH
 refine wpIn_rangeFunc_ownH rfl (by omega) (gf:= 120) (lb:= #[.pointer (some ⟨w.heap.size+1,0,none⟩)]) rfl trivial (enters_of Tryz.func120 (by kernel_rfl) rfl)
  (z8F 4 (w.heap.size+1) w.heap.size w.heap.size w2.heap.size n c A T (by omega) (by omega) w2 qR (by omega) (by omega) (by omega) (one_cell g1) hA)
  (fun h k=>keptSx_t h k) (fun W l o o' hl h _ _=>keptSx_b W l o o' hl h) (Below.refl _ _) (fun _=>rfl)
  (MidS w2 w.heap.size w2.heap.size T n) (fun _ _ _=>False) (MidS.own hz2') (fun _ _ _ _ _ hs _ _=>hs)
  ⟨g0,Kept.refl _ _⟩
  (AxS w2.heap.size T (fun x Bx=> {tmps:= #[.slice A n c,undef,.int .i64 0,.pointer (some ⟨w.heap.size,0,none⟩),.pointer (some ⟨Bx,0,none⟩),.slice A n c,.func (.func 120) #[] #[.pointer (some ⟨w.heap.size+1,0,none⟩)],.agg #[.int .u8 (T x.1).l,.int .i64 (T x.1).n,.int .i64 (T x.1).d],undef,undef,undef,undef,undef],defers:=[]}))
  (fun x a'=>AxS.own)
  ?assign ?body ?done ?stop
 case assign=>
  rintro l pre x W K ⟨hm1,hm2⟩ hK;unfold ziE;have HK:=hid (fun(a':Act) (W':World) (h1:KeepsFrom w2.heap.size W W') (h2:Kept (Sx w.heap.size w.heap.size w2.heap.size) W W') (h3:MidS w2 w.heap.size w2.heap.size T n pre W') h4=>hK a' W' h1 h2 h3 h4);clear hK;obtain⟨t,ht⟩:∃t,T x.1=t:=⟨_,rfl⟩
  have HT:=hid ht;rw[ht];clear ht;obtain⟨tl,tn,td⟩:=t;have H1:=hid hm1;have H2:=hid hm2;clear hm1 hm2;gi_wp2;exact HK.out _ _ ((KeepsOthers.alloc _ _).from _) ((Kept.refl _ _).alloc _) ⟨old_at _ H1.out,H2.out.alloc _⟩ ⟨W.heap.size,H2.out.size,by rw[HT.out];exact R3.new _ _ _ _ _,by dsimp only;rw[HT.out]⟩
 case body=>
  rintro l' pre x a' W hl' ⟨r,hr⟩ ⟨hm1,hm2⟩ ⟨Bx,hBx,hR,rfl⟩ hlt;obtain⟨t,ht⟩:∃t,T x.1=t:=⟨_,rfl⟩
  have HT:=hid ht;dsimp only;rw[ht] at hR ⊢;clear ht;obtain⟨tl,tn,td⟩:=t;simp only at hR ⊢;have c0:=hR.at0;have c1:=hR.at1;have c2:=hR.at2;have s0:=one_cell hm1;have f0:=one_free hm1;have hS:=z8T tl tn td;have hsn:=z9S T pre x;have hle:=szs_le (toks T pre);rw[z6u] at hle;obtain⟨S,hSS⟩:∃S,szs (toks T pre)=S:=⟨_,rfl⟩
  obtain⟨z,hzz⟩:∃z,szo ⟨tl,tn,td⟩=z:=⟨_,rfl⟩
  have hz258:=z9W ⟨tl,tn,td⟩;rw[hSS] at hle s0 hm1;rw[hzz] at hz258 hS;have HE:=hid (show szs (toks T (pre++[x]))=S+z by rw[hsn,szs_append,HT.out,hSS];simp[szs,hzz]);have hw1:IntKind.i64.wrap ((S:Int)+(z:Int))=((S+z:Nat):Int):=by rw[IntWalk.i64_in _ ⟨by omega,by omega⟩];omega
  have HS:=hid hS;clear hS hsn hSS hzz hle hz258;have H1:=hid hm1;have H2:=hid hm2;have HR:=hid hR;clear hm1 hm2 hR hA hr;have hmx: Tryz.prog.follows .mixedOrders=true:=by kernel_rfl
  have HX:=hid (show ∀w1 w',w1.heap=W.heap→Below w1.heap.size w1 w'→w'.heap[w.heap.size]? =some (.cells #[.int .i64 (S:Nat)] 3 (0,0)) from fun w1 w' h1 h2=>by
   have hlt0:=(qW.1 H1.out).1;rw[h2.block w.heap.size (by rw[h1];exact hlt0),h1];exact H1.out)
  gi_wp2
  gi_region_with_o (refine⟨trivial,?_⟩;gi_at_call 94;refine(CallsIn.inRound l' (callsIn_wide.2 (HS.out _))).mono ?_;rintro e w' ⟨rfl,hbb⟩;have q1:=HX.out _ _ (by rfl) hbb;have q2:=one_cell q1;have q3:=one_free q1;have HC:=hid ((Kept.refl NoB W).drew.trans (Kept.of_below hbb) (fun _ g=>g.elim));have HKO:=hid ((KeepsOthers.drew W).trans (z6Q hbb));have Q1:=hid q1;clear hbb q1)
  all_goals gi_wp2
  all_goals exact⟨(HKO.out.trans (KeepsOthers.setCell _ _ _)).from _,((HC.out.none _).setCell ⟨w.heap.size,0,none⟩ (.inl (.inl rfl)) _),by rw[HE.out];exact one_set Q1.out _,keptSx_t H2.out ((HC.out.none _).setCell ⟨w.heap.size,0,none⟩ (.inl (.inl rfl)) _)⟩
 case done=>
  rintro D ys W hD hS ⟨hm1,hm2⟩ hK;have hz:szs (toks T ys)=szs L:=by rw[HTk.out n ys qR hS,HL.out]
  rw[hz] at hm1;have s0:=one_cell hm1;have HKd:=hid hK;have HB:=hid (HFd.out W hm2);clear hS hm1 hm2 hA hK hz;gi_wp2;have hK':=HKd.out;refine⟨by simp,.inl ⟨_,_,rfl,run_takeDeferred hK',?_⟩⟩;exact⟨_,results_tmp rfl _ _ _,rfl,HB.out.trans (belowK_b (w:=w) qR _ D _ _ (by omega) hK' rfl rfl)⟩
 case stop=>
  rintro D c pre W _ _ h _;exact h.elim
end Go.Proofs.YtacelhaidcmbcaaGreatDoor.V.Tx
