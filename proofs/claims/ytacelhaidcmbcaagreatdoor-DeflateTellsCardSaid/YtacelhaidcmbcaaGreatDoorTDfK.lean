import Derived.Test.YtacelhaidcmbcaaGreatDoorTMBpV
import Derived.RangeFuncNested
import Derived.RangeFuncBox
import Derived.RangeFuncCalls
import Derived.RangeFuncLeaves
import Derived.RangeFuncWrites
import Derived.RangeFuncOwn
set_option maxHeartbeats 8000000
set_option maxRecDepth 1000000
namespace Go.Proofs.YtacelhaidcmbcaaGreatDoor.V
open Go.Lib (hid)
open Go Go.RowKit M U
set_option linter.unusedVariables false
set_option linter.unusedSimpArgs false
structure Bk where
 k:Nat
 A:Option Addr
 n:Nat
 c:Nat
 L:List Tk
 raw:ByteArray
 last:Bool
def ziC(x:Bk):Array Value:= #[.agg #[.int .u8 x.k,.slice x.A x.n x.c,.string x.raw,.bool x.last]]
noncomputable def bkb:List Bk→Nat→List Nat
 |[],_=> []
 |x::r,o=>bkm x.k x.L x.raw x.last o++bkb r (o+(bkm x.k x.L x.raw x.last o).length)
theorem z8r(x:Bk):∀ (l:List Bk) (o:Nat),bkb (l++[x]) o=bkb l o++bkm x.k x.L x.raw x.last (o+(bkb l o).length)
 |[],o=>by simp[bkb]
 |y::l,o=>by
  simp only[List.cons_append,bkb];rw[z8r x l,qD,qA,Nat.add_assoc]
theorem zbo{w w':World}{S:Nat→Prop}(hk:Kept S w w')(hS:∀j,S j→∃o:Obj,w.heap[j]? =some o∧o.isCells=true)(n:Nat):KeepsFrom n w w':=
 ⟨hk.size,fun k o _ ho hc=>by
  refine(hk.block k (qW.1 ho).1 (fun g=> ?_)).trans ho;obtain⟨o',e,e'⟩:=hS k g;rw[ho] at e;cases e
  rw[hc] at e';cases e'⟩
def Rd(p n₁:Nat):Nat→Prop:=fun j=>j=p∨n₁≤j
theorem ziW{p n₁:Nat}{A B C:World}(h:Kept (Rd p n₁) A B)(k:Kept (Rd p n₁) B C):Kept (Rd p n₁) A C:=h.trans k fun j hj=> .inl hj
structure z6m(w2:World)(n₁ B p:Nat)(most:Int)(ps:List Bk×(Nat→Prop))(W:World):Prop where
 wt:Wt W B p ps.2 most (nb (bkb ps.1 0)) (bkb ps.1 0).length
 rd:∀j,ps.2 j→Rd p n₁ j
 kept:Kept (Rd p n₁) w2 W
theorem z6m.own{w2:World}{n₁ B p:Nat}{most:Int}:OwnFrom n₁ (z6m w2 n₁ B p most):=fun ps W W' row hs hg hr=>
 ⟨hs.wt.keep (Kept.of_grown hg) (fun j hj e=>by
  obtain⟨_,o,ho,hc⟩:=hr j e;obtain⟨o',e1,e2⟩:=z1K hs.wt hj;rw[ho] at e1;cases e1
  rw[hc] at e2;cases e2),hs.rd,hs.kept.grown hg (fun r e=> .inl (.inr (hr r e).1))⟩
theorem z6m.lt{w2 W:World}{n₁ B p:Nat}{most:Int}{ps:List Bk×(Nat→Prop)}(h:z6m w2 n₁ B p most ps W){j:Nat}(hj:ps.2 j):j<W.heap.size:=by
 obtain⟨o',e1,e2⟩:=z1K h.wt hj;exact(qW.1 e1).1
theorem z6m.start{w2:World}{n₁ B p:Nat}{most:Int}{S:Nat→Prop}(h:Wt w2 B p S most 0 0)(hS:∀j,S j→Rd p n₁ j):z6m w2 n₁ B p most ([],S) w2:=
 ⟨h,hS,Kept.refl _ _⟩
def zjg(w2:World)(n₁ B p:Nat)(most:Int)(W:World)(S:Nat→Prop)(l:List Bk)(W':World):Prop:=KeepsFrom n₁ W W'∧∃S',Kept S W W'∧z6m w2 n₁ B p most (l,S') W'∧∀j,S' j→S j∨W.heap.size≤j
theorem z6m.put{w2 W:World}{n₁ B p:Nat}{most:Int}{pre:List Bk}{S:Nat→Prop}(h:z6m w2 n₁ B p most (pre,S) W)(x:Bk)(hB:B≤W.heap.size)(hn1:n₁≤W.heap.size)(hTb:∀w',Below B W w'→z5p w')(hT:∀w',Below B W w'→IsTks w' x.A x.n x.L)
 (hL:(bkb pre 0).length≤50000000) (hn:x.n≤100000) (hr:x.raw.size≤200000) (hk:x.k≤2) (hm:x.k≠0→∀t∈x.L,may t=true):
 Calls Tryz.prog 45 #[.pointer (some ⟨p,0,none⟩),.int .u8 x.k,.slice x.A x.n x.c,.string x.raw,.bool x.last] W fun e W'=>
  ((((bkb (pre++[x]) 0).length+7) /8:Nat)≤most→e=.returned (.int .i64 0)∧zjg w2 n₁ B p most W S (pre++[x]) W')∧
  (¬(((bkb (pre++[x]) 0).length+7) /8:Nat)≤most→e=.returned (.int .i64 4)∧KeepsFrom n₁ W W'∧Kept (Rd p n₁) W W'):=by
 obtain⟨hw,hS,hkp⟩:=h;simp only at hw hS;have hc:∀j,S j→∃o:Obj,W.heap[j]? =some o∧o.isCells=true:=fun j hj=>z1K hw hj
 have mono:∀ {W':World},Kept S W W'→KeepsFrom n₁ W W'∧Kept (Rd p n₁) W W':=fun hk=>⟨zbo hk hc _,hk.mono hS⟩
 have e:bkb (pre++[x]) 0=bkb pre 0++bkm x.k x.L x.raw x.last (bkb pre 0).length:=by rw[z8r,Nat.zero_add]
 have el:(bkb (pre++[x]) 0).length=(bkb pre 0).length+(bkm x.k x.L x.raw x.last (bkb pre 0).length).length:=by rw[e,qA]
 refine(zdb x.k x.A x.n x.c x.L x.raw x.last hw hB hTb hT hL hn hr hk hm).mono fun en W' q=>⟨fun hf=> ?_,fun hf=> ?_⟩
 · have g:=q.1 (by rw[List.nil_append,←el];exact hf)
   rw[List.nil_append] at g;obtain⟨g1,S',g2,g3,g4⟩:=g;refine⟨g1,(mono g3).1,S',g3,⟨?_,fun j hj=> ?_,ziW hkp (mono g3).2⟩,fun j hj=> ?_⟩
   · show Wt W' B p S' most (nb (bkb (pre++[x]) 0)) (bkb (pre++[x]) 0).length
     rw[el,e,z0E];exact g2
   · rcases g4 j hj with g|g
     · exact hS j g
     · exact .inr (by omega)
   · rcases g4 j hj with g|g
     · exact .inl g
     · exact .inr (by omega)
 · have g:=q.2 (by rw[List.nil_append,←el];exact hf)
   exact⟨g.1,mono g.2⟩
theorem z6m.round{w2 W:World}{n₁ B p:Nat}{most:Int}{pre:List Bk}{S:Nat→Prop}(h:z6m w2 n₁ B p most (pre,S) W)(x:Bk)(hB:B≤W.heap.size)(hn1:n₁≤W.heap.size)(hTb:∀w',Below B W w'→z5p w')(hT:∀w',Below B W w'→IsTks w' x.A x.n x.L)
 (hL:(bkb pre 0).length≤50000000) (hn:x.n≤100000) (hr:x.raw.size≤200000) (hk:x.k≤2) (hm:x.k≠0→∀t∈x.L,may t=true):
 Calls Tryz.prog 21 #[.pointer (some ⟨p,0,none⟩),.agg #[.int .u8 x.k,.slice x.A x.n x.c,.string x.raw,.bool x.last]] W fun e W'=>
  ((((bkb (pre++[x]) 0).length+7) /8:Nat)≤most→e=.returned (.tuple #[])∧zjg w2 n₁ B p most W S (pre++[x]) W')∧
  (¬(((bkb (pre++[x]) 0).length+7) /8:Nat)≤most→e=.panicked [{v:=.iface 52 (.agg #[.int .i64 4]),recovered:=false}]∧KeepsFrom n₁ W W'∧Kept (Rd p n₁) W W'):=by
 obtain⟨o,ho⟩:∃o:Obj,.cells #[.int .u8 x.k,.slice x.A x.n x.c,.string x.raw,.bool x.last] 56 =o:=⟨_,rfl⟩
 have hb1:Below B W (W.alloc o):=(Below.refl _ _).alloc hB _;have hk1:KeepsFrom n₁ W (W.alloc o):=(KeepsOthers.alloc _ _).from _;have hk2:∀ {S:Nat→Prop},Kept S W (W.alloc o):=(Kept.refl _ _).alloc _;have hp:=(z6m.own.alloc o h).put x (qK hB hb1.size) (qK hn1 hb1.size) (fun w' b=>hTb w' (hb1.trans b)) (fun w' b=>hT w' (hb1.trans b)) hL hn hr hk hm
 have HP:=hid (show Calls Tryz.prog 45 #[.pointer (some ⟨p,0,none⟩),.int .u8 x.k,.slice x.A x.n x.c,.string x.raw,.bool x.last] (W.alloc o) fun e W'=>
  ((((bkb (pre++[x]) 0).length+7) /8:Nat)≤most→e=.returned (.int .i64 0)∧zjg w2 n₁ B p most W S (pre++[x]) W')∧
  (¬(((bkb (pre++[x]) 0).length+7) /8:Nat)≤most→e=.returned (.int .i64 4)∧KeepsFrom n₁ W W'∧Kept (Rd p n₁) W W') from hp.mono fun e W' q=>
  ⟨fun hf=>let⟨q1,q2,S',q3,q4,q5⟩:=q.1 hf;⟨q1,hk1.trans q2,S',hk2.trans q3 (fun j hj=> .inl hj),q4,fun j hj=>(q5 j hj).imp id (fun g=>qK hb1.size g)⟩,
   fun hf=>let⟨q1,q2,q3⟩:=q.2 hf;⟨q1,hk1.trans q2,ziW hk2 q3⟩⟩)
 clear hb1 h hTb hT hm hL hr hk1 hk2 hp;subst ho;by_cases hf:(((bkb (pre++[x]) 0).length+7) /8:Nat)≤most
 · have HF:=hid hf
   clear hf;go_enter Tryz.func21,Tryz.ntmps21;go_wp2_with (go_at_call 45;(with_reducible refine HP.out.mono ?_);rintro e w1 ⟨q,_⟩;obtain⟨rfl,q1⟩:=q HF.out;have Q1:=hid q1;clear q q1);go_end0;exact⟨fun _=>⟨rfl,Q1.out⟩,fun q=>by exfalso;have:=HF.out;omega⟩
 · have HF:=hid hf
   clear hf;go_enter Tryz.func21,Tryz.ntmps21;go_wp2_with (go_at_call 45;(with_reducible refine HP.out.mono ?_);rintro e w1 ⟨_,q⟩;obtain⟨rfl,q2⟩:=q HF.out;have Q2:=hid q2;clear q q2);exact⟨rfl,fun q=>by exfalso;have:=HF.out;omega,fun _=>⟨rfl,Q2.out⟩⟩
end Go.Proofs.YtacelhaidcmbcaaGreatDoor.V
