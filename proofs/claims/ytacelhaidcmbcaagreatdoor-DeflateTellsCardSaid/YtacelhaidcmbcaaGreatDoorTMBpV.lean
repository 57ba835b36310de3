/- Texts of one place, one behind the other: BpV, BpS, BpT, BpX, BpY. -/
import Derived.Test.YtacelhaidcmbcaaGreatDoorTMBpJ
import Derived.Deep.RegionHeld
set_option maxHeartbeats 8000000
set_option maxRecDepth 1000000
set_option linter.unusedVariables false
set_option linter.unusedSimpArgs false
namespace Go.Proofs.YtacelhaidcmbcaaGreatDoor.V
open Go Go.RowKit M U
def z28(Q:Exit→Act→World→Prop):Exit→Act→World→Prop
 |.normal,a,w=>Q .normal a w
 |_,_,_=>False
theorem z28.imp{Q:Exit→Act→World→Prop}:∀ (e:Exit) (a:Act) (w:World),z28 Q e a w→Q e a w:=fun e a w h=>by
 cases e<;>first|exact h|exact h.elim
section
variable {n l:Nat} {P:Program} {md:Region.Mode} {ops:Array Oper} {Q:Exit→Act→World→Prop}
theorem z8G{o:Oper}{a:Act}{K:Act→World→Prop}(r:Result Next)(h:o.upon P a K (z28 Q) r):o.uponIn (Fence.wide.inRound l) n P a K (z28 Q) r:=by
 cases r with
 |ok x w'=>
  cases x with
  |value v=>exact h
  |skip=>exact h
  |defer d=>exact h
  |enter f args=>
   rw[Oper.upon_enter] at h;rw[Oper.uponIn_enter];exact⟨fun q=>(by cases q),CallsIn.inRound l (CallsIn.mono (callsIn_wide.2 h) (fun e w'' he=>by cases e<;>exact he))⟩
  |row row args=>
   refine⟨fun q=>(by cases q),fun c cs _=> ?_⟩;obtain⟨v,w'',r,s⟩:=(show Rows P row args w' _ from h) c cs;exact⟨v,w'',r,stepsIn_wide.2 s⟩
  |_=>exact h.elim
 |halt x w'=>cases x<;>first|exact h|exact h.elim
def zeu(ops:Array Oper):Prop:=∀ (j:Nat) (o:Oper),ops[j]? =some o→∀c,o.op≠.defer c
theorem z94{i:Nat}{a:Act}{w:World}{K K':Act→World→Prop}(hp:zeu ops)(hK:∀a w,K a w→K' a w)(h:wpOp P ops (z28 Q) i K a w):wpOpIn (Fence.wide.inRound l) n P ops (z28 Q) i K' a w:=by
 unfold wpOp at h;unfold wpOpIn;cases ho:ops[i]? with
 |none=>rw[ho] at h;exact hK _ _ h
 |some o=>
  rw[ho] at h;have hd:=hp i o ho;simp only at h ⊢;by_cases hw:Region.wanted o (yielded ops a.tmps)=true
  · rw[if_pos hw] at h ⊢
    rcases h with h|⟨_,a',w',h⟩
    · refine⟨fun f _=>trivial,?_⟩
      have h2:=z8G (n:=n) (l:=l) _ (Oper.wp_mono (o:=o) (a:=a) (w:=w) hK h);show o.uponIn _ n P a K' (z28 Q) ((o.semAt (some l) a.eval).run P w)
      rw[Oper.semAt_some l a.eval o hd];exact h2
    · exact h.elim
  · rw[if_neg hw] at h ⊢
    exact⟨fun f _=>trivial,hK _ _ h⟩
theorem z3y(hp:zeu ops):∀ (fuel:Nat) (listed:Array Bool) (a:Act) (w:World),wpAny P md ops (z28 Q) fuel listed a w→wpAnyIn (Fence.wide.inRound l) n P md ops (z28 Q) fuel listed a w
 |0,listed,a,w,h=>h
 |fuel+1,listed,a,w,h=>⟨h.1,fun i hi=>z94 hp (fun a w q=>z3y hp fuel _ a w q) (h.2 i hi)⟩
theorem z0K{id:Nat}{S:World→Prop}{a:Act}{w:World}(hm:P.follows .mixedOrders=true)(hp:zeu ops)(hS:S w.drew)
 (h:wpAnyH P .any ops (z28 Q) S ops.size (Array.replicate ops.size false) a w.drew):(Code.region id ops true).wpIn (Fence.wide.inRound l) n P Q a w:=
 Code.wpIn_mono z28.imp (wpIn_region_any hm (z3y hp _ _ _ _ (wpAny_of_held _ _ _ _ h)))
theorem z1U(h:(ops.all fun o=>match o.op with|.defer _=>false|_=>true)=true):zeu ops:=fun j o ho c e=>by
 rw[Array.all_eq_true_iff_forall_mem] at h;have:=h o (Array.mem_of_getElem? ho);rw[e] at this;cases this
theorem zcF{S:World→Prop}{i fuel:Nat}{oi:Oper}{v:Value}{d:Option Tmp}{listed:Array Bool}{a:Act}{w:World}(hi:ops[i]? =some oi)(hd:oi.dst=d)(hs:Region.noSelect ops=true)(hf:Region.free md ops listed i=true)(hr:(Region.ready md ops listed).contains i=true)
 (hw:Region.wanted oi (yielded ops a.tmps)=true) (hy:∀w,S w→(execOp a.eval oi).run P w=.ok (.value v) w) (hS:S w) (h:wpAnyH P md ops (z28 Q) S fuel (listed.setIfInBounds i true) (a.put d v) w):wpAnyH P md ops (z28 Q) S (fuel+1) listed a w:=
 wpAnyH_take hi hs hf hr (fun _ _ _ h=>h) (.inl ⟨hw,hy⟩) hS (by rw[hd];exact h)
end
theorem zhi{w:World}{B p:Nat}{S:Nat→Prop}{most:Int}{V L:Nat}(h:Wt w B p S most V L){j:Nat}(hj:S j)(hp:j≠p){cs:Array Value}{T:TypeId}{fz:Nat×Nat}(he:w.heap[j]? =some (.cells cs T fz))(hT:T≠ 5):False:=by
 obtain⟨ao,c,hw,hS⟩:=h;rcases(hS j).1 hj with q|⟨a,ha,rfl⟩
 · exact hp q
 · subst ha
   rcases hw.own.2 with⟨e,_⟩|⟨g,cap,cur,e,_,hh,_⟩
   · simp at e
   · simp only[Value.slice.injEq,Option.some.injEq] at e
     obtain⟨rfl,_,_⟩:=e;rw[he] at hh;simp only[Option.some.injEq,Obj.cells.injEq] at hh;exact hT hh.2.1
structure Rg8(M p Bx b i yn ye yb cc ss:Nat)(w:World):Prop where
 s0:w.cell? ⟨M,0,none⟩=some (.pointer (some ⟨p,0,none⟩))
 s1:w.cell? ⟨Bx,1,none⟩=some (.int .i64 yn)
 s2:w.cell? ⟨Bx,2,none⟩=some (.int .u32 ye)
 s3:w.cell? ⟨Bx,3,none⟩=some (.int .u8 yb)
 s4:w.cell? ⟨b,i,none⟩=some (.int .u32 cc)
 s5:w.cell? ⟨b,i+1,none⟩=some (.int .u8 ss)
theorem Rg8.kept{M p Bx b i yn ye yb cc ss:Nat}{w w':World}{S:Nat→Prop}(h:Rg8 M p Bx b i yn ye yb cc ss w)(k:Kept S w w')(h1:¬S M)(h2:¬S Bx)(h3:¬S b):Rg8 M p Bx b i yn ye yb cc ss w':=
 ⟨k.cell h.s0 h1,k.cell h.s1 h2,k.cell h.s2 h2,k.cell h.s3 h2,k.cell h.s4 h3,k.cell h.s5 h3⟩
end Go.Proofs.YtacelhaidcmbcaaGreatDoor.V
namespace Go.Proofs.YtacelhaidcmbcaaGreatDoor.V
open Go.Lib (hid)
open Go Go.RowKit M U
attribute [local go_sem] Oper.semAt_some
theorem zfm{w:World}{B p:Nat}{S:Nat→Prop}{most:Int}{V L:Nat}(h:Wt w B p S most V L):∃R,S R∧S p∧∀j,S j→j=R∨j=p:=by
 obtain⟨ao,c,hw,hS⟩:=h;cases ao with
 |none=>exact⟨p,(hS p).2 (.inl rfl),(hS p).2 (.inl rfl),fun j hj=>by
  rcases(hS j).1 hj with q|⟨a,q,_⟩
  · exact .inl q
  · simp at q⟩
 |some a=>exact⟨a.block,(hS _).2 (.inr ⟨a,rfl,rfl⟩),(hS p).2 (.inl rfl),fun j hj=>by
  rcases(hS j).1 hj with q|⟨b,q,e⟩
  · exact .inr q
  · cases q;exact .inl e⟩
theorem zhj{w:World}{B p:Nat}{S:Nat→Prop}{most:Int}{V L:Nat}(h:Wt w B p S most V L){j:Nat}(hj:S j)(x y z:Int)(fz:Nat×Nat)(he:w.heap[j]? =some (.cells #[.int .u8 x,.int .i64 y,.int .i64 z] 64 fz)):False:=by
 obtain⟨ao,c,hw,hS⟩:=h;rcases(hS j).1 hj with rfl|⟨a,ha,rfl⟩
 · have c0:=hw.c0
   rw[cell_of_row _ _ 0 _ _ fz he] at c0;cases c0
 · subst ha
   rcases hw.own.2 with⟨e,_⟩|⟨g,cap,cur,e,_,hh,_⟩
   · simp at e
   · simp only[Value.slice.injEq,Option.some.injEq] at e
     obtain⟨rfl,_,_⟩:=e;rw[he] at hh;simp only[Option.some.injEq,Obj.cells.injEq] at hh;have:=hh.2.1
     revert this
     decide
theorem ziI{w w':World}{B p:Nat}{S S0:Nat→Prop}{most:Int}{V L R n₁:Nat}(h:Wt w B p S most V L)(k:Kept S w w')(hs:∀j,S j→S0 j∨n₁≤j)(h0:∀j,S0 j→j=R∨j=p):Kq R p n₁ w w':=
 ⟨k.mono (fun j hj=>by
  rcases hs j hj with q|q
  · rcases h0 j q with q|q
    · exact .inl q
    · exact .inr (.inl q)
  · exact .inr (.inr q)),fun i x y z fz e=>(k.block i (qW.1 e).1 (fun q=>zhj h q x y z fz e)).trans e⟩
theorem Kq.grown{R p n₁:Nat}{w2 W W':World}{row:Option Nat}(h:Kq R p n₁ w2 W)(hg:W.grownBy W' row)(hr:∀r,row=some r→n₁≤r∧∃o:Obj,W.heap[r]? =some o∧o.isCells=false):Kq R p n₁ w2 W':=
 ⟨h.k.grown hg (fun r e=> .inl (.inr (.inr (hr r e).1))),fun i x y z fz e=>by
  have q:=h.t i x y z fz e;refine(hg.block i (qW.1 q).1 (fun e2=> ?_)).trans q;obtain⟨_,o,ho,hc⟩:=hr i e2.symm;rw[q] at ho;cases ho
  cases hc⟩
structure zh8(w2:World)(B p R:Nat)(S:Nat→Prop)(most:Int)(V o:Nat)(X:List Nat)(F:Sy→List Nat)(pre:List Oy)(W:World):Prop where
 wr:∃S',Wt W B p S' most (V+nb (X++(pre.map (·.1)).flatMap F)*2^o) (o+(X++(pre.map (·.1)).flatMap F).length)∧∀j,S' j→S j∨w2.heap.size≤j
 kp:Kq R p w2.heap.size w2 W
 fit:pre≠[]→(((o+(X++(pre.map (·.1)).flatMap F).length+7) /8:Nat):Int)≤most
theorem zh8.own{w2:World}{B p R:Nat}{S:Nat→Prop}{most:Int}{V o:Nat}{X:List Nat}{F:Sy→List Nat}:OwnFrom w2.heap.size (zh8 w2 B p R S most V o X F):=fun pre W W' row hs hg hr=>by
 obtain⟨⟨S',h1,h2⟩,h3,h4⟩:=hs;exact⟨⟨S',z2z h1 hg (fun r e=>(hr r e).2),h2⟩,h3.grown hg hr,h4⟩
structure IxW(w2:World)(M:Nat)(S:Nat→Prop)(most:Int)(o:Nat)(X:List Nat)(F:Sy→List Nat)(c:Code)(pre:List Oy)(W:World):Prop where
 ret:c=.ret
 res:W.heap[M+1+1]? =some (.cells #[.int .i64 4] 24 (0,0))
 kp:Kept (fun j=>S j∨M≤j) w2 W
 no:¬(((o+(X++(pre.map (·.1)).flatMap F).length+7) /8:Nat):Int)≤most
theorem IxW.own{w2:World}{M:Nat}{S:Nat→Prop}{most:Int}{o:Nat}{X:List Nat}{F:Sy→List Nat}{c:Code}(hM:M+1+1<w2.heap.size):OwnFrom w2.heap.size (IxW w2 M S most o X F c):=fun pre W W' row hs hg hr=>by
 obtain⟨h1,h2,h3,h4⟩:=hs;exact⟨h1,(hg.block (M+1+1) (qW.1 h2).1 (fun e=>by have:=(hr (M+1+1) e.symm).1;omega)).trans h2,h3.grown hg (fun r e=> .inl (.inr (by have:=(hr r e).1;omega))),h4⟩
theorem z9G{w:World}{B p:Nat}{S:Nat→Prop}{most:Int}{V o:Nat}{X:List Nat}(A:Option Addr)(n c:Nat)(L:List Tk)(A1 A2:Option Addr)(n1 c1 c2:Nat)(l1 l2:Nat→Nat)(h:Wt w B p S most (V+nb X*2^o) (o+X.length))(HT:Y.Tab w)(hL:IsTks w A n L)(hmay:∀t∈L,may t=true)(hn:n≤100000)
 (hg:∀g,g= 2 ∨g= 3 →g<B) (hA:∀b q,A=some ⟨b,q,none⟩→0<n→b<B)
 (H1:z09 w .u8 A1 n1 (fun i=>(l1 i:Int))) (H2:z09 w .u8 A2 30 (fun i=>(l2 i:Int))) (hn1:286≤n1) (hn2:n1≤1000) (F1:z4s l1 n1) (F2:z4s l2 30) (h1:∀i,l1 i≤15) (h2:∀i,l2 i≤15) (hLo:o+X.length≤100000000):
 Calls Tryz.prog 74 #[.pointer (some ⟨p,0,none⟩),.slice A n c,.agg #[.slice A1 n1 c1,.slice A2 30 c2]] w (Put w B p S most V o X ((sys L).flatMap (wsy l1 n1 l2 30))):=by
 have HH:=hid h;have HTt:=hid HT;have HLt:=hid hL;have HMay:=hid hmay;have HN:=hid (show(sys L).length≤200001 from by have:=z1h L;have:=hL.leng;omega);have HW1:=hid (show ∀W,Below w.heap.size w W→Calls Tryz.prog 110 #[.slice A1 n1 c1] W (z5o W n1 l1) from fun W b=>z1E A1 n1 c1 l1 W hn2 (by omega) F1 (H1.below b));have HW2:=hid (show ∀W,Below w.heap.size w W→Calls Tryz.prog 110 #[.slice A2 30 c2] W (z5o W 30 l2) from fun W b=>z1E A2 30 c2 l2 W (by omega) (by omega) F2 (H2.below b));have hBw:B≤w.heap.size:=by have:=h.lt h.self;omega
 obtain⟨R,hSR,hSp,hRp⟩:=zfm h;have HRp:=hid hRp;have HF1:=hid F1;have HF2:=hid F2;have HL1:=hid h1;have HL2:=hid h2;have HG:=hid hg;have HA:=hid hA;obtain⟨wb,hwb⟩:∃wb,((w.alloc (.cells #[.pointer (some ⟨p,0,none⟩)] 53)).alloc (.cells #[.slice A1 n1 c1,.slice A2 30 c2] 74)).alloc (.cells #[.int .i64 0] 24)=wb:=⟨_,rfl⟩
 have hzb:wb.heap.size=w.heap.size+1+1+1:=by rw[←hwb];simp
 have hbb:Below w.heap.size w wb:=by rw[←hwb];exact(((Below.refl _ w).alloc qR _).alloc (by simp) _).alloc (by simp;omega) _
 have g0:wb.heap[w.heap.size]? =some (.cells #[.pointer (some ⟨p,0,none⟩)] 53 (0,0)):=by rw[←hwb];exact old_at _ (old_at _ (new_at _ _))
 have g1:wb.heap[w.heap.size+1]? =some (.cells #[.slice A1 n1 c1,.slice A2 30 c2] 74 (0,0)):=by
  rw[←hwb];have:=old_at (.cells #[.int .i64 0] 24) (new_at (w.alloc (.cells #[.pointer (some ⟨p,0,none⟩)] 53)) (.cells #[.slice A1 n1 c1,.slice A2 30 c2] 74));rw[World.size_alloc] at this;exact this
 have g2:wb.heap[w.heap.size+1+1]? =some (.cells #[.int .i64 0] 24 (0,0)):=by
  rw[←hwb];have:=new_at ((w.alloc (.cells #[.pointer (some ⟨p,0,none⟩)] 53)).alloc (.cells #[.slice A1 n1 c1,.slice A2 30 c2] 74)) (.cells #[.int .i64 0] 24);rw[World.size_alloc,World.size_alloc] at this;exact this
 obtain⟨M,hM⟩:∃M,w.heap.size=M:=⟨_,rfl⟩
 rw[hM] at hzb hbb g0 g1 g2 hBw;have HBb:=hid hbb;have HZb:=hid hzb;have HG0:=hid g0;have HG1:=hid g1;have HG2:=hid g2;have HM:=hid hM;have HWb:=hid hwb;clear h HT hL hmay H1 H2 F1 F2 hRp h1 h2 hg hA hzb hbb g0 g1 g2 hwb;refine(callsIn_wide (n:=5)).1 ?_
 refine callsIn_of_wp_marks Tryz.func74 rfl trivial ?_ rfl;simp only[Tryz.ntmps74,List.size_toArray,qC,List.length_nil,Nat.reduceAdd,Nat.reduceSub,Array.replicate_succ,Array.replicate_zero,List.push_toArray,List.append_toArray,List.nil_append,List.cons_append]
 gi_wp2_with (first
  |(refine⟨trivial,?_⟩;gi_at_call 111;refine(callsIn_wide.2 (z5P _ _ _ _)).mono ?_;rintro e w' ⟨rfl,rfl⟩)
  |(refine⟨trivial,?_⟩;gi_at_call 110;rw[HWb.out];refine(callsIn_wide.2 (HW1.out wb (by rw[HM.out];exact HBb.out))).mono ?_;rintro e w1 ⟨b1,d1,rfl,hb1,hcr1,hbl1⟩
    have HBb1:=hid hb1;have HC1:=hid hcr1;have HBl1:=hid (hbl1.alloc hbl1.size (.cells #[.slice (some ⟨b1,0,none⟩) n1 d1] 118));have HP1:=hid (new_at w1 (.cells #[.slice (some ⟨b1,0,none⟩) n1 d1] 118))
    have k1:(w1.alloc (.cells #[.slice (some ⟨b1,0,none⟩) n1 d1] 118)).cell? ⟨M+1,1,none⟩=some (.slice A2 30 c2):=by
     exact cell_of_row _ _ 1 _ _ (0,0) ((HBl1.out.block (M+1) (by have:=HZb.out;omega)).trans HG1.out)
    clear hb1 hcr1 hbl1)
  |(refine⟨trivial,?_⟩;gi_at_call 110;refine(callsIn_wide.2 (HW2.out _ (by rw[HM.out];exact HBb.out.trans (HBl1.out.mono (by have:=HZb.out;omega))))).mono ?_;rintro e w3 ⟨b2,d2,rfl,hb2,hcr2,hbl2⟩
    have HBb2:=hid hb2;have HC2:=hid hcr2;have HBl2:=hid (hbl2.alloc hbl2.size (.cells #[.slice (some ⟨b2,0,none⟩) 30 d2] 118));have HP2:=hid (new_at w3 (.cells #[.slice (some ⟨b2,0,none⟩) 30 d2] 118));clear hb2 hcr2 hbl2 k1))
 obtain⟨P1,hP1⟩:∃P1,w1.heap.size=P1:=⟨_,rfl⟩
 obtain⟨P2,hP2⟩:∃P2,w3.heap.size=P2:=⟨_,rfl⟩
 obtain⟨wa,hwa⟩:∃wa,w1.alloc (.cells #[.slice (some ⟨b1,0,none⟩) n1 d1] 118)=wa:=⟨_,rfl⟩
 obtain⟨wc,hwc⟩:∃wc,w3.alloc (.cells #[.slice (some ⟨b2,0,none⟩) 30 d2] 118)=wc:=⟨_,rfl⟩
 obtain⟨w2,hw2⟩:∃w2,wc.alloc (.cells #[.slice A n c] 29)=w2:=⟨_,rfl⟩
 have sa:wa.heap.size=P1+1:=by rw[←hwa,←hP1];simp
 have sc:wc.heap.size=P2+1:=by rw[←hwc,←hP2];simp
 have hz2:w2.heap.size=P2+1+1:=by rw[←hw2,←sc];simp
 have ba:=HBl1.out;have bc:=HBl2.out;have p1:=HP1.out;have p2:=HP2.out;rw[hwa] at ba bc p1;rw[hwc] at bc p2;rw[hP1] at p1;rw[hP2] at p2;have bd:Below wc.heap.size wc w2:=by rw[←hw2];exact qL
 have zb:=HZb.out;have hb1:=HBb1.out;have hb2:=HBb2.out;have hb1l:b1<P1:=by rw[←hP1];exact HC1.out.lt
 have hb2l:b2<P2:=by rw[←hP2];exact HC2.out.lt
 rw[hwa] at hb2;have bsz:=ba.size;have csz:=bc.size;have bM:Below M w w2:=((HBb.out.trans (ba.mono (by omega))).trans (bc.mono (by omega))).trans (bd.mono (by omega));have bX:Below wb.heap.size wb w2:=(ba.trans (bc.mono (by omega))).trans (bd.mono (by omega));have bY:Below wa.heap.size wa w2:=bc.trans (bd.mono (by omega));have g0:w2.heap[M]? =some (.cells #[.pointer (some ⟨p,0,none⟩)] 53 (0,0)):=(bX.block M (by omega)).trans HG0.out;have g2:w2.heap[M+1+1]? =some (.cells #[.int .i64 0] 24 (0,0)):=(bX.block (M+1+1) (by omega)).trans HG2.out;have gp1:w2.heap[P1]? =some (.cells #[.slice (some ⟨b1,0,none⟩) n1 d1] 118 (0,0)):=(bY.block P1 (by omega)).trans p1;have gp2:w2.heap[P2]? =some (.cells #[.slice (some ⟨b2,0,none⟩) 30 d2] 118 (0,0)):=(bd.block P2 (by omega)).trans p2;have gp3:w2.heap[P2+1]? =some (.cells #[.slice A n c] 29 (0,0)):=by rw[←hw2,←sc];exact new_at _ _
 have cr1:C.Crow w2 b1 n1 (C.rc l1 n1) l1:=by
  have q:C.Crow wa b1 n1 (C.rc l1 n1) l1:=by rw[←hwa];exact HC1.out.alloc _
  exact Crow.at' q (bY.block b1 (by omega))
 have cr2:C.Crow w2 b2 30 (C.rc l2 30) l2:=by
  have q:C.Crow wc b2 30 (C.rc l2 30) l2:=by rw[←hwc];exact HC2.out.alloc _
  exact Crow.at' q (bd.block b2 (by omega))
 rw[hwc,hw2,hP1,hP2];have hRB:B≤R∧R<M:=by have:=HH.out.lt hSR;rw[HM.out] at this;exact this
 have hpB:B≤p∧p<M:=by have:=HH.out.lt hSp;rw[HM.out] at this;exact this
 have hgl:=HG.out;have hT2:=HTt.out.below bM (by rw[HM.out];exact qR);have hL2:=HLt.out.below (by rw[HM.out];exact bM)
 have hA2:∀b q,A=some ⟨b,q,none⟩→0<n→b<w2.heap.size∧b≠R∧b≠p:=fun b q e hp=>by
  have:=HA.out b q e hp;omega
 have HBM:=hid bM;have HZ2:=hid hz2;have HG0:=hid g0;have HG2:=hid g2;have HGp1:=hid gp1;have HGp2:=hid gp2;have HCr1:=hid cr1;have HCr2:=hid cr2;have HOr:=hid (show M+3≤b1∧b1<P1∧P1<b2∧b2<P2 from by omega);have HSl:=hid (show ∀j,S j→B≤j∧j<M from fun j hj=>by have:=HH.out.lt hj;rw[HM.out] at this;exact this);have HWt2:=hid (HH.out.keep (Kept.of_below (by rw[HM.out];exact bM)) (fun j _ q=>q));have HKf:=hid (show ∀W',Kept (fun j=>S j∨M≤j) w2 W'→Kept S w W' from fun W' k=>(z06 S (by rw[HM.out];exact bM)).trans k (fun j hj=>hj.imp_right (fun q=>by have:=HM.out;omega)));obtain⟨F,hF⟩:∃F,wsy l1 n1 l2 30=F:=⟨_,rfl⟩
 have HFe:=hid hF;rw[hF];have HRB:=hid hRB;have HPB:=hid hpB;have hs0:P2+1<w2.heap.size:=by omega
 have hs1:P2+1≠R:=by omega
 have hs2:P2+1≠p:=by omega
 have hs3:∀g,g= 2 ∨g= 3 →g<w2.heap.size∧g≠R∧g≠p:=fun g hg=>by
  have:=hgl g hg;omega
 clear HC1 HC2 HBl1 HBl2 HP1 HP2 HBb1 HBb2 HZb HG1 HWb HBb ba bc p1 p2 bd zb hb1 hb2 hb1l hb2l bsz csz bM bX bY g0 g2 gp1 gp2 cr1 cr2 sa sc hwa hwc hw2 hP1 hP2 hF hRB hpB hgl hz2
 refine wpIn_rangeFunc_ownH rfl (by omega) (gf:= 137) (lb:= #[.pointer (some ⟨P2+1,0,none⟩)]) rfl trivial (enters_of Tryz.func137 (by kernel_rfl) rfl)
  (z1R 4 (P2+1) R p w2.heap.size n c A L (by omega) (by omega) hs0 hs1 hs2 hs3 w2 qR (one_cell gp3) hL2 HMay.out hA2 hT2)
  (fun h k=>h.trans k) (fun W l o o' hl h hc _=>Kq.book W l o o' hl h hc) (Below.refl _ _) (fun _=>rfl)
  (zh8 w2 B p R S most V o X F) (IxW w2 M S most o X F) zh8.own (fun c=>IxW.own (by have:=HZ2.out;have:=HOr.out;omega))
  ⟨⟨S,by simpa using HWt2.out,fun j hj=> .inl hj⟩,Kq.refl _,fun q=>absurd rfl q⟩
  (AxC w2.heap.size (fun x Bx=> {tmps:= #[.pointer (some ⟨p,0,none⟩),.slice A n c,.agg #[.slice A1 n1 c1,.slice A2 30 c2],.pointer (some ⟨M,0,none⟩),undef,.pointer (some ⟨M+1,0,none⟩),.pointer (some ⟨M+1+1,0,none⟩),.pointer (some ⟨P1,0,none⟩),.int .i64 0,.pointer (some ⟨P2,0,none⟩),.int .i64 0,.pointer (some ⟨Bx,0,none⟩),undef,undef,.tuple #[.slice (some ⟨b1,0,none⟩) n1 d1,.int .i64 0],.pointer (some ⟨M+1,0,none⟩),.slice A1 n1 c1,.tuple #[.slice (some ⟨b1,0,none⟩) n1 d1,.int .i64 0],.slice (some ⟨b1,0,none⟩) n1 d1,.int .i64 0,.tuple #[.slice (some ⟨b2,0,none⟩) 30 d2,.int .i64 0],.pointer (some ⟨M+1,1,none⟩),.slice A2 30 c2,.tuple #[.slice (some ⟨b2,0,none⟩) 30 d2,.int .i64 0],.slice (some ⟨b2,0,none⟩) 30 d2,.int .i64 0,.slice A n c,.func (.func 137) #[] #[.pointer (some ⟨P2+1,0,none⟩)],sgv x.1,undef,undef,undef,undef,undef,undef,undef,undef,undef,undef,undef,undef,undef,undef,undef,undef,undef],defers:=[]}))
  (fun x a'=>AxC.own)
  ?assign ?body ?done ?stop
 case assign=>
  rintro l pre x W K hm hK;have HK:=hid (fun(a':Act) (W':World) (h1:KeepsFrom w2.heap.size W W') (h2:Kq R p w2.heap.size W W') (h3:zh8 w2 B p R S most V o X F pre W') h4=>hK a' W' h1 h2 h3 h4);have HMd:=hid hm;clear hK hm gp3 hA2 hT2 hL2 hs0 hs1 hs2 hs3;obtain⟨⟨yd,yn,ye,yb⟩,hy⟩:=x;unfold zgJ sgv;gi_wp2;exact HK.out _ _ ((KeepsOthers.alloc _ _).from _) (Kq.alloc _ _) (zh8.own.alloc _ HMd.out) ⟨W.heap.size,HMd.out.kp.k.size,new_at _ _,rfl⟩
 case body=>
  rintro l' pre x a' W hl' ⟨r,hr⟩ hm ⟨Bx,hBx,hR,rfl⟩ hlt;obtain⟨⟨S',hw,hsub⟩,hkp,hfit⟩:=hm;have hzz:=HZ2.out;have hor:=HOr.out;have hrb:=HRB.out;have hpb:=HPB.out;have hns:∀j,j<w2.heap.size→M≤j→¬Sx R p w2.heap.size j:=fun j h1 h2=>sx_no h1 (by omega) (by omega)
  have c0:=one_cell ((hkp.k.block M (by omega) (hns M (by omega) (by omega))).trans HG0.out);have cp1:=one_cell ((hkp.k.block P1 (by omega) (hns P1 (by omega) (by omega))).trans HGp1.out);have cp2:=one_cell ((hkp.k.block P2 (by omega) (hns P2 (by omega) (by omega))).trans HGp2.out);have HG2W:=hid ((hkp.k.block (M+1+1) (by omega) (hns (M+1+1) (by omega) (by omega))).trans HG2.out);have cr1:C.Crow W b1 n1 (C.rc l1 n1) l1:=Crow.at' HCr1.out (hkp.k.block b1 (by omega) (hns b1 (by omega) (by omega)));have cr2:C.Crow W b2 30 (C.rc l2 30) l2:=Crow.at' HCr2.out (hkp.k.block b2 (by omega) (hns b2 (by omega) (by omega)))
  have HNs:=hid (show ¬S' (M+1+1) from fun q=>by
   rcases hsub _ q with q|q
   · have:=HSl.out _ q;omega
   · omega)
  have HNb:=hid (show ∀j,j<w2.heap.size→M≤j→¬S' j from fun j h1 h2 q=>by
   rcases hsub _ q with q|q
   · have:=HSl.out _ q;omega
   · omega)
  have HNm:=hid (HNb.out M (by omega) (by omega));have HNx2:=hid (show ¬S' Bx from fun q=>zhi hw q (by omega) hR (by decide));have HWz:=hid (show w2.heap.size≤W.heap.size from hkp.k.size);obtain⟨y,hy⟩:=x;have hlp:pre.length≤200001:=by have:=HN.out;omega
  obtain⟨Xp,hXp⟩:∃Xp,X++(pre.map (·.1)).flatMap F=Xp:=⟨_,rfl⟩
  have hlen:o+Xp.length≤800000000:=by
   have h1:=z1D l1 n1 l2 30 (fun i=>qK (HL1.out i) (by omega)) (fun i=>qK (HL2.out i) (by omega)) (pre.map (·.1)) (fun y hy=>by
    obtain⟨z,_,rfl⟩:=List.mem_map.1 hy;exact z.2.2.1)
   rw[HFe.out,List.length_map] at h1;rw[←hXp,qA];omega
  have hnx:X++((pre++[(⟨y,hy⟩:Oy)]).map (·.1)).flatMap F=Xp++F y:=by
   rw[List.map_append,List.flatMap_append,←qD,hXp];simp
  rw[hXp] at hw;have hy0:=hy.1.1;have hy1:=hy.1.2;have hy2:=hy.2.1;have hy3:=hy.2.2.2;have HNx:=hid hnx;have HWt:=hid hw;have HSub:=hid hsub;have HKp:=hid hkp;have HLe:=hid hlen;have hmx: Tryz.prog.follows .mixedOrders=true:=by kernel_rfl
  have HMid:=hid (show ∀wk w1 S2,Below W.heap.size W wk→(((o+(Xp++F y).length+7) /8:Nat):Int)≤most→Wt w1 B p S2 most (V+nb (Xp++F y)*2^o) (o+(Xp++F y).length)→Kept S' wk w1→(∀j,S2 j→S' j∨wk.heap.size≤j)→KeepsFrom w2.heap.size W w1∧Kq R p w2.heap.size W w1∧zh8 w2 B p R S most V o X F (pre++[(⟨y,hy⟩:Oy)]) w1 from fun wk w1 S2 bk hM1 h2 k2 i2=>by
   have k:=(z06 S' bk).trans k2 (fun j hj=> .inl hj);have kq:=ziI HWt.out k HSub.out HRp.out
   exact⟨(z1a HWt.out k).from _,kq,⟨S2,by rw[HNx.out];exact h2,fun j hj=>by
    rcases i2 j hj with q|q
    · exact HSub.out j q
    · right;have:=HWz.out;have:=bk.size;omega⟩,HKp.out.trans kq,fun _=>by rw[HNx.out];exact hM1⟩)
  have HEnd:=hid (show ∀wk w1,Below W.heap.size W wk→¬(((o+(Xp++F y).length+7) /8:Nat):Int)≤most→Kept S' wk w1→w1.heap[M+1+1]? =some (.cells #[.int .i64 0] 24 (0,0))∧∀v,v=Value.int .i64 4→KeepsFrom w2.heap.size W (w1.setCell ⟨M+1+1,0,none⟩ v)∧IxW w2 M S most o X F .ret (pre++[(⟨y,hy⟩:Oy)]) (w1.setCell ⟨M+1+1,0,none⟩ v) from fun wk w1 bk hM1 k1=>by
   have hz3:=HZ2.out;have hz4:=HWz.out;have hz5:=HOr.out;have k:=(z06 S' bk).trans k1 (fun j hj=> .inl hj);have g:=(k.block (M+1+1) (by omega) HNs.out).trans HG2W.out;refine⟨g,fun v hv=>⟨((z1a HWt.out k).trans (KeepsOthers.setCell _ _ _)).from _,rfl,by rw[hv];exact one_set g _,?_,by rw[HNx.out];exact hM1⟩⟩
   have hk0:Kept (fun j=>S j∨M≤j) w2 W:=HKp.out.k.mono (fun j hj=>by
    rcases hj with q|q|q
    · exact .inl (q▸hSR)
    · exact .inl (q▸hSp)
    · right;omega)
   have hk3:Kept (fun j=>S j∨M≤j) w2 w1:=hk0.trans k (fun j hj=>by
    rcases HSub.out j hj with q|q
    · exact .inl (.inl q)
    · exact .inr q)
   exact hk3.setCell ⟨M+1+1,0,none⟩ (.inl (.inr (by show M≤M+1+1;omega))) _)
  obtain⟨yd,yn,ye,yb⟩:=y;simp only at hR hy0 hy1 hy2 hy3;unfold sgv;dsimp only;have q0:W.cell? ⟨Bx,0,none⟩=some (.bool yd):=cell_of_row _ _ 0 _ _ (0,0) hR;have q1:W.cell? ⟨Bx,1,none⟩=some (.int .i64 yn):=cell_of_row _ _ 1 _ _ (0,0) hR;have q2:W.cell? ⟨Bx,2,none⟩=some (.int .u32 ye):=cell_of_row _ _ 2 _ _ (0,0) hR;have q3:W.cell? ⟨Bx,3,none⟩=some (.int .u8 yb):=cell_of_row _ _ 3 _ _ (0,0) hR;clear hkp hfit hzz hor hrb hpb hns hlp hXp hlen hnx hr hlt gp3 hA2 hT2 hL2 hs0 hs1 hs2 hs3 hl' hsub hR;cases yd
  case' false=>
   have hyn:yn<n1:=by have:=hy0 rfl;omega
   have hyn2:(yn:Int)<n1:=by omega
   have m0:=cr1.cell1 hyn;have m1:=cr1.cell2 hyn;have hcc2:=C.rc_lt l1 n1 yn;have hss2:=HL1.out yn
   have hfy:F ⟨false,yn,ye,yb⟩=([(C.rc l1 n1 yn,l1 yn),(ye,yb)]:List Cd).flatMap cbs:=by
    rw[←HFe.out];unfold wsy cbs C.rc;simp[z7H]
   obtain⟨cc,hcc⟩:∃cc,C.rc l1 n1 yn=cc:=⟨_,rfl⟩
   obtain⟨ss,hss⟩:∃ss,l1 yn=ss:=⟨_,rfl⟩
   rw[hcc] at m0 hcc2 hfy;rw[hss] at m1 hcc2 hss2 hfy;have bk:Below W.heap.size W ((W.alloc (.cells #[.int .u32 (cc:Int),.int .u8 (ss:Int),.int .u32 (ye:Int),.int .u8 (yb:Int)] 128)).drew):=((Below.refl _ W).alloc qR _).drew;have HS0:=hid (show Rg8 M p Bx b1 (yn*2) yn ye yb cc ss W.drew from⟨c0,q1,q2,q3,m0,m1⟩);have HS1:=hid (show Rg8 M p Bx b1 (yn*2) yn ye yb cc ss ((W.alloc (.cells #[.int .u32 (cc:Int),.int .u8 (ss:Int),.int .u32 (ye:Int),.int .u8 (yb:Int)] 128)).drew) from HS0.out.kept ((Kept.refl NoB W.drew).alloc (.cells #[.int .u32 (cc:Int),.int .u8 (ss:Int),.int .u32 (ye:Int),.int .u8 (yb:Int)] 128)) (fun q=>q) (fun q=>q) (fun q=>q));have HKs:=hid (show ∀w5,Kept S' ((W.alloc (.cells #[.int .u32 (cc:Int),.int .u8 (ss:Int),.int .u32 (ye:Int),.int .u8 (yb:Int)] 128)).drew) w5→Rg8 M p Bx b1 (yn*2) yn ye yb cc ss w5 from fun w5 k=>HS1.out.kept k HNm.out HNx2.out (HNb.out b1 (by have:=HOr.out;have:=HZ2.out;omega) (by have:=HOr.out;omega)));have HBk:=hid bk
   have hpw:=z0X (w:=(W.alloc (.cells #[.int .u32 (cc:Int),.int .u8 (ss:Int),.int .u32 (ye:Int),.int .u8 (yb:Int)] 128)).drew) (some ⟨W.heap.size,0,none⟩) 2 2 [(cc,ss),(ye,yb)] (HWt.out.keep (Kept.of_below bk) (fun j _ q=>q)) (z0b.of_row (heap_alloc_new W _) rfl rfl) (z4R HWt.out qR) (fun c hc=>by
    simp only[List.mem_cons,List.not_mem_nil,or_false] at hc;rcases hc with rfl|rfl
    · exact⟨hcc2,by show ss≤16;omega⟩
    · exact⟨hy3,by show yb≤16;omega⟩) (by omega) (by omega) HLe.out
   rw[←hfy] at hpw;unfold Put at hpw;have HPw:=hid hpw;by_cases hm:(((o+(Xp++F ⟨false,yn,ye,yb⟩).length+7) /8:Nat):Int)≤most
   case' pos=>
    have HR:=hid (fun w5 S2 h2 k2 i2=>HMid.out _ w5 S2 HBk.out hm h2 k2 i2);have HM1:=hid hm;clear bk hpw hm hw hy0 hy1 hy2 hy3 hcc hss hcc2 hss2 hfy cr1 cr2;gi_wp2;refine z0K (S:=Rg8 M p Bx b1 (yn*2) yn ye yb cc ss) hmx (z1U (by kernel_rfl)) HS0.out ?_
   case' neg=>
    have HR:=hid (fun w5 k1=>HEnd.out _ w5 HBk.out hm k1);have HM1:=hid hm;clear bk hpw hm hw hy0 hy1 hy2 hy3 hcc hss hcc2 hss2 hfy cr1 cr2;gi_wp2;refine z0K (S:=Rg8 M p Bx b1 (yn*2) yn ye yb cc ss) hmx (z1U (by kernel_rfl)) HS0.out ?_
  case' true=>
   have hyn:yn<30:=hy1 rfl;have hyn2:(yn:Int)<30:=by omega
   have m0:=cr2.cell1 hyn;have m1:=cr2.cell2 hyn;have hcc2:=C.rc_lt l2 30 yn;have hss2:=HL2.out yn
   have hfy:F ⟨true,yn,ye,yb⟩=([(C.rc l2 30 yn,l2 yn),(ye,yb)]:List Cd).flatMap cbs:=by
    rw[←HFe.out];unfold wsy cbs C.rc;simp[z7H]
   obtain⟨cc,hcc⟩:∃cc,C.rc l2 30 yn=cc:=⟨_,rfl⟩
   obtain⟨ss,hss⟩:∃ss,l2 yn=ss:=⟨_,rfl⟩
   rw[hcc] at m0 hcc2 hfy;rw[hss] at m1 hcc2 hss2 hfy;have bk:Below W.heap.size W ((W.alloc (.cells #[.int .u32 (cc:Int),.int .u8 (ss:Int),.int .u32 (ye:Int),.int .u8 (yb:Int)] 128)).drew):=((Below.refl _ W).alloc qR _).drew;have HS0:=hid (show Rg8 M p Bx b2 (yn*2) yn ye yb cc ss W.drew from⟨c0,q1,q2,q3,m0,m1⟩);have HS1:=hid (show Rg8 M p Bx b2 (yn*2) yn ye yb cc ss ((W.alloc (.cells #[.int .u32 (cc:Int),.int .u8 (ss:Int),.int .u32 (ye:Int),.int .u8 (yb:Int)] 128)).drew) from HS0.out.kept ((Kept.refl NoB W.drew).alloc (.cells #[.int .u32 (cc:Int),.int .u8 (ss:Int),.int .u32 (ye:Int),.int .u8 (yb:Int)] 128)) (fun q=>q) (fun q=>q) (fun q=>q));have HKs:=hid (show ∀w5,Kept S' ((W.alloc (.cells #[.int .u32 (cc:Int),.int .u8 (ss:Int),.int .u32 (ye:Int),.int .u8 (yb:Int)] 128)).drew) w5→Rg8 M p Bx b2 (yn*2) yn ye yb cc ss w5 from fun w5 k=>HS1.out.kept k HNm.out HNx2.out (HNb.out b2 (by have:=HOr.out;have:=HZ2.out;omega) (by have:=HOr.out;omega)));have HBk:=hid bk
   have hpw:=z0X (w:=(W.alloc (.cells #[.int .u32 (cc:Int),.int .u8 (ss:Int),.int .u32 (ye:Int),.int .u8 (yb:Int)] 128)).drew) (some ⟨W.heap.size,0,none⟩) 2 2 [(cc,ss),(ye,yb)] (HWt.out.keep (Kept.of_below bk) (fun j _ q=>q)) (z0b.of_row (heap_alloc_new W _) rfl rfl) (z4R HWt.out qR) (fun c hc=>by
    simp only[List.mem_cons,List.not_mem_nil,or_false] at hc;rcases hc with rfl|rfl
    · exact⟨hcc2,by show ss≤16;omega⟩
    · exact⟨hy3,by show yb≤16;omega⟩) (by omega) (by omega) HLe.out
   rw[←hfy] at hpw;unfold Put at hpw;have HPw:=hid hpw;by_cases hm:(((o+(Xp++F ⟨true,yn,ye,yb⟩).length+7) /8:Nat):Int)≤most
   case' pos=>
    have HR:=hid (fun w5 S2 h2 k2 i2=>HMid.out _ w5 S2 HBk.out hm h2 k2 i2);have HM1:=hid hm;clear bk hpw hm hw hy0 hy1 hy2 hy3 hcc hss hcc2 hss2 hfy cr1 cr2;gi_wp2;refine z0K (S:=Rg8 M p Bx b2 (yn*2) yn ye yb cc ss) hmx (z1U (by kernel_rfl)) HS0.out ?_
   case' neg=>
    have HR:=hid (fun w5 k1=>HEnd.out _ w5 HBk.out hm k1);have HM1:=hid hm;clear bk hpw hm hw hy0 hy1 hy2 hy3 hcc hss hcc2 hss2 hfy cr1 cr2;gi_wp2;refine z0K (S:=Rg8 M p Bx b2 (yn*2) yn ye yb cc ss) hmx (z1U (by kernel_rfl)) HS0.out ?_
  all_goals
   refine zcF (i:=0) (d:=some 33) (v:= ?_) rfl rfl (by kernel_rfl) (by kernel_rfl) (by kernel_rfl) (by rfl) (fun w' hs=> ?_) HS0.out ?_
   rotate_left
   · (obtain⟨s0,s1,s2,s3,s4,s5⟩:=hs;go_simp;(try with_reducible rfl))
   (try simp only[Act.put,List.setIfInBounds_toArray,List.set_cons_zero,List.set_cons_succ])
   refine zcF (i:=1) (d:=some 34) (v:= ?_) rfl rfl (by kernel_rfl) (by kernel_rfl) (by kernel_rfl) (by rfl) (fun w' hs=> ?_) HS0.out ?_
   rotate_left
   · (obtain⟨s0,s1,s2,s3,s4,s5⟩:=hs;go_simp;(try with_reducible rfl))
   (try simp only[Act.put,List.setIfInBounds_toArray,List.set_cons_zero,List.set_cons_succ])
   refine zcF (i:=2) (d:=some 35) (v:= ?_) rfl rfl (by kernel_rfl) (by kernel_rfl) (by kernel_rfl) (by rfl) (fun w' hs=> ?_) HS0.out ?_
   rotate_left
   · (obtain⟨s0,s1,s2,s3,s4,s5⟩:=hs;go_simp;(try with_reducible rfl))
   (try simp only[Act.put,List.setIfInBounds_toArray,List.set_cons_zero,List.set_cons_succ])
   refine zcF (i:=3) (d:=some 36) (v:= ?_) rfl rfl (by kernel_rfl) (by kernel_rfl) (by kernel_rfl) (by rfl) (fun w' hs=> ?_) HS0.out ?_
   rotate_left
   · (obtain⟨s0,s1,s2,s3,s4,s5⟩:=hs;go_simp;(try with_reducible rfl))
   (try simp only[Act.put,List.setIfInBounds_toArray,List.set_cons_zero,List.set_cons_succ])
   refine zcF (i:=4) (d:=some 37) (v:= ?_) rfl rfl (by kernel_rfl) (by kernel_rfl) (by kernel_rfl) (by rfl) (fun w' hs=> ?_) HS0.out ?_
   rotate_left
   · (obtain⟨s0,s1,s2,s3,s4,s5⟩:=hs;go_simp;(try with_reducible rfl))
   (try simp only[Act.put,List.setIfInBounds_toArray,List.set_cons_zero,List.set_cons_succ])
   refine zcF (i:=5) (d:=some 38) (v:= ?_) rfl rfl (by kernel_rfl) (by kernel_rfl) (by kernel_rfl) (by rfl) (fun w' hs=> ?_) HS0.out ?_
   rotate_left
   · (obtain⟨s0,s1,s2,s3,s4,s5⟩:=hs;go_simp;(try with_reducible rfl))
   (try simp only[Act.put,List.setIfInBounds_toArray,List.set_cons_zero,List.set_cons_succ])
   refine zcF (i:=6) (d:=some 39) (v:= ?_) rfl rfl (by kernel_rfl) (by kernel_rfl) (by kernel_rfl) (by rfl) (fun w' hs=> ?_) HS0.out ?_
   rotate_left
   · (obtain⟨s0,s1,s2,s3,s4,s5⟩:=hs;go_simp;(try with_reducible rfl))
   (try simp only[Act.put,List.setIfInBounds_toArray,List.set_cons_zero,List.set_cons_succ])
   refine zcF (i:=7) (d:=some 40) (v:= ?_) rfl rfl (by kernel_rfl) (by kernel_rfl) (by kernel_rfl) (by rfl) (fun w' hs=> ?_) HS0.out ?_
   rotate_left
   · (obtain⟨s0,s1,s2,s3,s4,s5⟩:=hs;go_simp;(try with_reducible rfl))
   (try simp only[Act.put,List.setIfInBounds_toArray,List.set_cons_zero,List.set_cons_succ])
   refine wpAnyH_ready (rs:=[8]) (by kernel_rfl) (by simp) (AllReadyH.cons rfl (fun K hK=> ?_) AllReadyH.nil);go_simp;refine hK.out _ _ HS1.out (fun _=> ?_);clear hK K
   (try simp only[Act.put,List.setIfInBounds_toArray,List.set_cons_zero,List.set_cons_succ])
   refine wpAnyH_ready (rs:=[9]) (by kernel_rfl) (by simp) (AllReadyH.cons rfl (fun K hK=> ?_) AllReadyH.nil);go_simp
   first|((with_reducible refine HPw.out.mono ?_);rintro e w5 ⟨hd,hno⟩;obtain⟨rfl,S2,h2,k2,i2⟩:=hd HM1.out;have HE:=hid (HR.out w5 S2 h2 k2 i2);have hs5:=HKs.out w5 k2;clear hd hno h2 k2 i2)|((with_reducible refine HPw.out.mono ?_);rintro e w5 ⟨hd,hno⟩;obtain⟨rfl,k1⟩:=hno (by have:=HM1.out;omega);obtain⟨g,hE⟩:=HR.out w5 k1;have g1:=one_cell g;have g2:=one_free g;have HE:=hid hE;have hs5:=HKs.out w5 k1;clear hd hno k1 hE)
   dsimp only;refine hK.out _ _ hs5 (fun _=> ?_);clear hK K
   (try simp only[Act.put,List.setIfInBounds_toArray,List.set_cons_zero,List.set_cons_succ])
   refine zcF (i:=10) (d:=some 13) (v:= ?_) rfl rfl (by kernel_rfl) (by kernel_rfl) (by kernel_rfl) (by rfl) (fun w' hs=> ?_) hs5 ?_
   rotate_left
   · (go_simp;(try with_reducible rfl))
   (try simp only[Act.put,List.setIfInBounds_toArray,List.set_cons_zero,List.set_cons_succ])
   refine wpAnyH_done (by kernel_rfl) ?_ _;simp only[z28];clear hs5;gi_wp2
   first|exact HE.out|exact HE.out _ rfl
 case done=>
  rintro D ys W hD hS hm hK;obtain⟨⟨S',hw,hsub⟩,hkp,hfit⟩:=hm;have hzz:=HZ2.out;have hor:=HOr.out;have hrb:=HRB.out;have hpb:=HPB.out;have g:=(hkp.k.block (M+1+1) (by omega) (sx_no (by omega) (by omega) (by omega))).trans HG2.out;have g1:=one_cell g;have g2:=one_free g
  have hne:ys≠[]:=fun q=>by
   rw[q] at hS;have:=congrArg List.length hS;unfold sys at this;simp at this
  have hf:=hfit hne;rw[hS] at hw hf;have HWt:=hid hw;have HSub:=hid hsub;have HKp:=hid hkp;have HF:=hid hf;have HKd:=hid hK;have HGr:=hid g;have hD2:w2.heap.size≤D:=hD;clear hw hsub hkp hfit hzz hor hrb hpb g hne hf hK hS gp3 hA2 hT2 hL2 hs0 hs1 hs2 hs3;gi_wp2;have hK':(W.setCell ⟨M+1+1,0,none⟩ (.int .i64 0)).heap[D]? =some (.deferred (some [])):=(KeepsOthers.setCell W ⟨M+1+1,0,none⟩ (.int .i64 0)).same D _ HKd.out rfl;refine⟨by simp,.inl ⟨_,_,rfl,run_takeDeferred hK',?_⟩⟩;have hc5:=cell_kept (one_cell (one_set HGr.out (.int .i64 0))) (grownBy_putObj' _ D (.deferred none)) (fun r e=>by cases e;exact⟨_,hK',rfl⟩)
  have h1:Wt (W.setCell ⟨M+1+1,0,none⟩ (.int .i64 0)) B p S' most (V+nb (X++(sys L).flatMap F)*2^o) (o+(X++(sys L).flatMap F).length):=HWt.out.keep ((Kept.refl (fun j=>j=M+1+1) W).setCell ⟨M+1+1,0,none⟩ (.inl rfl) _) (fun j hj q=>by
   rcases HSub.out j hj with r|r
   · have:=HSl.out j r;omega
   · have:=HZ2.out;have:=HOr.out;omega)
  have h2:=z2z h1 (grownBy_putObj' _ D (.deferred none)) (fun r e=>by cases e;exact⟨_,hK',rfl⟩)
  have hk3:Kept (fun j=>S j∨M≤j) w2 W:=HKp.out.k.mono (fun j hj=>by
   rcases hj with q|q|q
   · exact .inl (q▸hSR)
   · exact .inl (q▸hSp)
   · right;have:=HZ2.out;have:=HOr.out;omega)
  have hk4:=(hk3.setCell ⟨M+1+1,0,none⟩ (.inl (.inr (by show M≤M+1+1;omega))) (.int .i64 0)).grown (grownBy_putObj' _ D (.deferred none)) (fun r e=>by cases e;exact .inl (.inr (by have:=HZ2.out;have:=HOr.out;omega)));have hFe:=HFe.out;subst hFe
  refine⟨.int .i64 0,?_,fun _=>⟨rfl,S',h2,HKf.out _ hk4,fun j hj=>by
   rcases HSub.out j hj with q|q
   · exact .inl q
   · right;have:=HZ2.out;have:=HM.out;have:=HOr.out;omega⟩,fun q=>absurd HF.out q⟩
  simp[results,Tryz.f74,go_sem,hc5]
 case stop=>
  rintro D c pre W hD ⟨r,hr⟩ ⟨rfl,hres,hkp,hno⟩ hK;have g1:=one_cell hres;have g2:=one_free hres;have HKd:=hid hK;have HKp:=hid hkp
  have HNo:=hid (show ¬(((o+(X++(sys L).flatMap F).length+7) /8:Nat):Int)≤most from fun q=>hno (by
   rw[←hr,List.flatMap_append,←qD] at q;exact z65 q))
  clear hK hkp hno hr gp3 hA2 hT2 hL2 hs0 hs1 hs2 hs3;gi_wp2;have hK':=HKd.out;refine⟨by simp,.inl ⟨_,_,rfl,run_takeDeferred hK',?_⟩⟩;have hc5:=cell_kept g1 (grownBy_putObj' _ D (.deferred none)) (fun r e=>by cases e;exact⟨_,hK',rfl⟩);have hk4:=HKp.out.grown (grownBy_putObj' _ D (.deferred none)) (fun r e=>by cases e;exact .inl (.inr (by have:=HZ2.out;have:=HOr.out;omega)));have hno:=HNo.out;have hFe:=HFe.out;subst hFe;refine⟨.int .i64 4,?_,fun q=>absurd q (by omega),fun _=>⟨rfl,HKf.out _ hk4⟩⟩;simp[results,Tryz.f74,go_sem,hc5]
end Go.Proofs.YtacelhaidcmbcaaGreatDoor.V
namespace Go.Proofs.YtacelhaidcmbcaaGreatDoor.V
open Go.Lib (hid)
open Go Go.RowKit M U
theorem zba{w:World}{B g i:Nat}{v:Value}(hB:B≤w.heap.size)(h:∀w',Below B w w'→w'.cell? ⟨g,i,none⟩=some v):g<B:=by
 rcases Nat.lt_or_ge g B with q|q
 · exact q
 · have hl:=qB (h w (Below.refl _ _))
   have hb:Below B w (w.putObj g (.deferred none)):=(Below.refl B w).grown (grownBy_putObj' w g _) hB (fun k e=>by cases e;exact q);have h2:=h _ hb;have h3:(w.putObj g (.deferred none)).heap[g]? =some (.deferred none):=World.putObj_heap_same hl;unfold World.cell? at h2;rw[h3] at h2;cases h2
theorem zgv{w:World}{B:Nat}{A:Option Addr}{n:Nat}{L:List Tk}(hB:B≤w.heap.size)(h:∀w',Below B w w'→IsTks w' A n L):∀b q,A=some ⟨b,q,none⟩→0<n→b<B:=fun b q e hn=>by
 have hc:∀w',Below B w w'→w'.cell? ⟨b,q+0*3,none⟩=some (.int .u8 (L.getD 0 default).l):=fun w' hb=>by
  obtain⟨b',o',e',hb',hcs⟩:=(h w' hb).at hn;rw[e] at e';simp only[Option.some.injEq,Addr.mk.injEq,and_true] at e';obtain⟨rfl,rfl⟩:=e';exact(hcs 0 hn).1
 exact zba hB hc
theorem zdH{w:World}{B:Nat}(hB:B≤w.heap.size)(h:∀w',Below B w w'→z5p w'):∀g,g= 2 ∨g= 3 →g<B:=fun g hg=>by
 rcases hg with rfl|rfl
 · exact zba hB (fun w' b=>(h w' b).2.l0)
 · exact zba hB (fun w' b=>(h w' b).2.d0)
section
variable {w w5 w':World} {B p:Nat} {S S5:Nat→Prop} {most:Int} {V o:Nat} {X Y1 Y2:List Nat} {e:Ending}
theorem Put.step(k:Kept S w w5)(i:∀j,S5 j→S j∨w.heap.size≤j)(h:Put w5 B p S5 most V o (X++Y1) Y2 e w'):Put w B p S most V o X (Y1++Y2) e w':=by
 unfold Put at h ⊢;rw[qD] at h;exact⟨fun q=>Did.go k i (h.1 q),fun q=>⟨(h.2 q).1,k.trans (h.2 q).2 i⟩⟩
theorem Put.go(k:Kept S w w5)(i:∀j,S5 j→S j∨w.heap.size≤j)(h:Put w5 B p S5 most V o X Y1 e w'):Put w B p S most V o X Y1 e w':=by
 unfold Put at h ⊢;exact⟨fun q=>Did.go k i (h.1 q),fun q=>⟨(h.2 q).1,k.trans (h.2 q).2 i⟩⟩
theorem Put.ret(h:Put w B p S most V o X Y1 e w'):∃v,e=.returned v:=by
 by_cases q:(((o+(X++Y1).length+7) /8:Nat):Int)≤most
 · exact⟨_,(h.1 q).1⟩
 · exact⟨_,(h.2 q).1⟩
theorem Put.full(hf:¬(((o+(X++Y1).length+7) /8:Nat):Int)≤most)(he:e=.returned (.int .i64 4))(k:Kept S w w'):Put w B p S most V o X (Y1++Y2) e w':=by
 refine⟨fun q=>absurd q (fun q=>hf ?_),fun _=>⟨he,k⟩⟩;rw[←qD] at q;exact z65 q
end
theorem zir{w:World}{B p:Nat}{S:Nat→Prop}{most:Int}{V o:Nat}(h:Wt w B p S most V o)(hL:o≤900000000)(hm:(((o+7) /8:Nat):Int)≤most):
 Calls Tryz.prog 66 #[.pointer (some ⟨p,0,none⟩),.int .u64 0,.int .i64 0] w (Did w B p S most (0,V,o)):=by
 have g:=Go.Proofs.YtacelhaidcmbcaaGreatDoor.bits_any h 0 0 (by omega) hL
 have e:z5l most V o (0:Int).toNat 0=(0,V,o):=by
  have:=z3v (most:=most) (V:=V) (L:=o) (N:=0) (s:=0) (by omega) (by decide) (by simpa using hm)
  simpa using this
 rw[e] at g;exact g
theorem z9x{w:World}{B p:Nat}{S:Nat→Prop}{most:Int}{V o:Nat}(h:Wt w B p S most V o)(hL:o≤900000000)(hm:¬(((o+7) /8:Nat):Int)≤most):
 Calls Tryz.prog 66 #[.pointer (some ⟨p,0,none⟩),.int .u64 0,.int .i64 0] w fun e w'=>e=.returned (.int .i64 4)∧Kept S w w':=by
 have g:=Go.Proofs.YtacelhaidcmbcaaGreatDoor.bits_any h 0 0 (by omega) hL
 have e:z5l most V o (0:Int).toNat 0=(4,V,o):=by
  have:=z2r (most:=most) (V:=V) (L:=o) (N:=0) (s:=0) (by omega) (by decide) (by simpa using hm)
  simpa using this
 rw[e] at g;exact g.mono fun e w' hd=>⟨hd.1,z5b hd⟩
theorem zeM(V o:Nat):V+nb []*2^o=V:=by simp[nb]
theorem zg3{w:World}{B p:Nat}{S:Nat→Prop}{most:Int}{V o:Nat}(k:Nat)(A:Option Addr)(n c:Nat)(raw:ByteArray)(last:Bool)(Y:List Nat)(h:Wt w B p S most V o)(hL:o≤50000000)(hm:¬(((o+7) /8:Nat):Int)≤most):
 Calls Tryz.prog 45 #[.pointer (some ⟨p,0,none⟩),.int .u8 k,.slice A n c,.string raw,.bool last] w (Put w B p S most V o [] Y):=by
 have HB:=hid (z9x h (by omega) hm);have HF:=hid (show ¬(((o+Y.length+7) /8:Nat):Int)≤most from fun q=>hm (by omega));clear h hm;unfold Put;go_enter Tryz.func45,Tryz.ntmps45;go_wp2_with (go_at_call 66;(with_reducible refine HB.out.mono ?_);rintro e w1 ⟨rfl,k1⟩;have K1:=hid k1;clear k1);go_ret;have hf:=HF.out;exact⟨fun q=>absurd q (by omega),fun _=>⟨rfl,K1.out⟩⟩
theorem zat{w:World}{B p:Nat}{S:Nat→Prop}{most:Int}{V o:Nat}(A:Option Addr)(n c:Nat)(L:List Tk)(raw:ByteArray)(last:Bool)(h:Wt w B p S most V o)(hB:B≤w.heap.size)(hT:∀w',Below B w w'→IsTks w' A n L)(hL:o≤50000000)(hn:n≤100000)(hr:raw.size≤200000)(hm:(((o+7) /8:Nat):Int)≤most):
 Calls Tryz.prog 45 #[.pointer (some ⟨p,0,none⟩),.int .u8 0,.slice A n c,.string raw,.bool last] w (Put w B p S most V o [] (stm o raw last)):=by
 have HBi:=hid (zir h (by omega) hm);have HH:=hid h
 have HRf:=hid (show ∀W,Below B w W→Calls Tryz.prog 67 #[.int .u8 0,.slice A n c,.string raw,.int .i64 o] W fun e w'=>e=.returned (.int .i64 0)∧Below W.heap.size W w' from fun W b=>by
  have:=z0W 0 A n c L raw o W (hT W b) hn (by omega) (by omega) (by omega);rw[show rfs 0 L=0 by unfold rfs;rw[if_neg (by omega)]] at this;exact this)
 have HLe:=hid (fun(w1:World) (S1:Nat→Prop) (h1:Wt w1 B p S1 most V o)=>z7k h1 (by omega))
 have HSt:=hid (fun(w1:World) (S1:Nat→Prop) (h1:Wt w1 B p S1 most V o)=>(show Calls Tryz.prog 69 #[.pointer (some ⟨p,0,none⟩),.string raw,.bool last] w1 (Put w1 B p S1 most V o [] (stm o raw last)) from
  z6o raw last (X:=[]) (by rw[zeM];exact h1) (by omega) (by simp;omega)))
 have HB:=hid hB;clear h hT hm hB;go_enter Tryz.func45,Tryz.ntmps45
 go_wp2_with (first
  |(go_at_call 66;(with_reducible refine HBi.out.mono ?_);rintro e w1 hd;have b1:=z68 HH.out hd;obtain⟨rfl,S1,h1,k1,i1⟩:=hd;have H1:=hid h1;have K1:=hid k1;have I1:=hid i1;have B1:=hid b1;clear h1 k1 i1 b1)
  |(go_at_call 68;(with_reducible refine(HLe.out _ _ H1.out).mono ?_);rintro e w2 ⟨rfl,k2⟩;have b2:Below w1.heap.size w1 w2:=k2.below qR (fun j g=>g.elim);have H2:=hid (H1.out.keep k2 (fun _ _ g=>g));have B2:=hid (B1.out.trans (b2.mono (qK HB.out K1.out.size)));have K2:=hid (K1.out.trans (z06 S1 b2) I1.out);clear k2 b2)
  |(go_at_call 67;(with_reducible refine(HRf.out _ B2.out).mono ?_);rintro e w3 ⟨rfl,b3⟩;have H3:=hid (H2.out.keep (Kept.of_below b3) (fun _ _ g=>g));have K3:=hid (K2.out.trans (z06 S1 b3) I1.out);clear b3)
  |(go_at_call 69;(with_reducible refine(HSt.out _ _ H3.out).mono ?_);rintro e w4 hp;obtain⟨v4,rfl⟩:=hp.ret;have P4:=hid (hp.go K3.out I1.out);clear hp))
 go_ret;exact P4.out
theorem z09.keepS{w w':World}{ki:IntKind}{A:Option Addr}{n:Nat}{f:Nat→Int}{S:Nat→Prop}(h:z09 w ki A n f)(k:Kept S w w')(hA:∀b q,A=some ⟨b,q,none⟩→¬S b):z09 w' ki A n f:=fun hn=>by
 obtain⟨b,o,e,hlt,hc⟩:=h hn;exact⟨b,o,e,Nat.lt_of_lt_of_le hlt k.size,fun j hj=>k.cell (hc j hj) (hA b o e)⟩
theorem zeK{w:World}{B p:Nat}{S:Nat→Prop}{most:Int}{V o:Nat}(k:Nat)(A:Option Addr)(n c:Nat)(L:List Tk)(raw:ByteArray)(last:Bool)(n1:Nat)(l1 l2:Nat→Nat)(T:List Cd)(hk0:k≠0)(hk2:k≤2)(h:Wt w B p S most V o)(hB:B≤w.heap.size)(hTb:∀w',Below B w w'→z5p w')(hT:∀w',Below B w w'→IsTks w' A n L)(hL:o≤50000000)(hn:n≤100000)(hr:raw.size≤200000)(hmay:∀t∈L,may t=true)
 (HC:∀w1,Below B w w1→Calls Tryz.prog 70 #[.int .u8 k,.slice A n c] w1 (z4t w1 (sys L) n1 l1 l2 T)) (h1:286≤n1) (h2:n1≤1000) (hTT:T.length≤1000∧∀c∈T,c.1<2^c.2∧c.2≤16) (F1:z4s l1 n1) (F2:z4s l2 30) (hl1:∀i,l1 i≤15) (hl2:∀i,l2 i≤15) (hm:(((o+7) /8:Nat):Int)≤most):
 Calls Tryz.prog 45 #[.pointer (some ⟨p,0,none⟩),.int .u8 k,.slice A n c,.string raw,.bool last] w (Put w B p S most V o [] ((hdb k last++T.flatMap cbs)++(sys L).flatMap (wsy l1 n1 l2 30))):=by
 have HBi:=hid (zir h (by omega) hm);have HH:=hid h;have hz:=z85
 have HRf:=hid (show ∀W,Below B w W→Calls Tryz.prog 67 #[.int .u8 k,.slice A n c,.string raw,.int .i64 o] W fun e w'=>e=.returned (.int .i64 0)∧Below W.heap.size W w' from fun W b=>by
  have:=z0W k A n c L raw o W (hT W b) hn (by omega) (by omega) (by omega);rw[show rfs k L=0 by unfold rfs;rw[if_neg (by rw[z4r hmay];simp;omega)]] at this;exact this)
 have HLe:=hid (fun(w1:World) (S1:Nat→Prop) (h1:Wt w1 B p S1 most V o)=>z7k h1 (by omega));have HCo:=hid HC;have HB:=hid hB;have hlg:=zdH hB hTb;have hlt:=zgv hB hT
 have HSy:=hid (fun(w9:World) (S9:Nat→Prop) (X:List Nat) (A1 A2:Option Addr) (c1 c2:Nat) (b:Below B w w9) (h9:Wt w9 B p S9 most (V+nb X*2^o) (o+X.length)) (q1:z09 w9 .u8 A1 n1 (fun i=>(l1 i:Int))) (q2:z09 w9 .u8 A2 30 (fun i=>(l2 i:Int))) (hX:o+X.length≤100000000)=>
  z9G A n c L A1 A2 n1 c1 c2 l1 l2 h9 (hTb w9 b).2 (hT w9 b) hmay hn hlg hlt q1 q2 h1 h2 F1 F2 hl1 hl2 hX)
 obtain⟨Y2,hY2⟩:∃Y2,(sys L).flatMap (wsy l1 n1 l2 30)=Y2:=⟨_,rfl⟩
 rw[hY2] at HSy ⊢;obtain⟨SL,hSL⟩:∃SL,sys L=SL:=⟨_,rfl⟩
 rw[hSL] at HCo;have e1:((k:Int)==0)=false:=by rw[qN];omega
 have e2:decide ((k:Int)=0)=false:=qF (by omega)
 have HSt:=hid (fun(w1:World) (A1 A2 A3:Option Addr) (c1 c2 c3:Nat)=>by
  have h:=(Kd.new w1 (fun _=>0) (fun _=>0) 0 (.slice none 0 0) (.slice none 0 0) (.slice none 0 0)).store (cs false SL) (cs true SL) (smb SL) (.slice A1 n1 c1) (.slice A2 30 c2) (.slice A3 T.length c3) rfl rfl rfl;rw[World.setRow_alloc_new] at h;exact h)
 have HHd:=hid (show ∀W,Calls Tryz.prog 73 #[.int .u8 k,.bool last] W fun e w'=> ∃g,e=.returned (.slice (some ⟨g,0,none⟩) 2 2)∧W.heap.size≤g∧z0b w' (some ⟨g,0,none⟩) 2 (hdc k last)∧Below W.heap.size W w' from fun W=>z5R k last W (by omega));have HHk:=hid (zeY (k:=k) (by omega) last);have HTl:=hid hTT;unfold z4t at HCo;clear h hT hTb hm hB HC hlg hlt F1 F2 hl1 hl2 hY2 hSL hTT hmay;go_enter Tryz.func45,Tryz.ntmps45
 go_wp2_with (first
  |(go_at_call 66;(with_reducible refine HBi.out.mono ?_);rintro e w1 hd;have b1:=z68 HH.out hd;obtain⟨rfl,S1,h1,k1,i1⟩:=hd;have H1:=hid h1;have K1:=hid k1;have I1:=hid i1;have B1:=hid b1;clear h1 k1 i1 b1)
  |(go_at_call 68;(with_reducible refine(HLe.out _ _ H1.out).mono ?_);rintro e w2 ⟨rfl,k2⟩;have b2:Below w1.heap.size w1 w2:=k2.below qR (fun j g=>g.elim);have H2:=hid (H1.out.keep k2 (fun _ _ g=>g));have B2:=hid (B1.out.trans (b2.mono (qK HB.out K1.out.size)));have K2:=hid (K1.out.trans (z06 S1 b2) I1.out);clear k2 b2)
  |(go_at_call 67;(with_reducible refine(HRf.out _ B2.out).mono ?_);rintro e w3 ⟨rfl,b3⟩;have H3:=hid (H2.out.keep (Kept.of_below b3) (fun _ _ g=>g));have B3:=hid (B2.out.trans (b3.mono (qK HB.out K2.out.size)));have K3:=hid (K2.out.trans (z06 S1 b3) I1.out);clear b3)
  |(go_at_call 70;(with_reducible refine(HCo.out _ B3.out).mono ?_);rintro e w4 ⟨A1,c1,A2,c2,A3,c3,rfl,q1,q2,q3,b4,u1,u2⟩
    have bb:Below w4.heap.size w4 (w4.alloc (.cells (KV (cs false SL) (cs true SL) (smb SL) (.slice A1 n1 c1) (.slice A2 30 c2) (.slice A3 T.length c3)) 160)):=qL;have Q1:=hid (q1.below bb);have Q2:=hid (q2.below bb);have Q3:=hid (q3.below bb);have U1:=hid u1;have Z4:=hid (show w3.heap.size≤w4.heap.size from b4.size);have U2:=hid u2;have bc:=b4.trans (bb.mono b4.size);have H5:=hid (H3.out.keep (Kept.of_below bc) (fun _ _ g=>g));have K5:=hid (K3.out.trans (z06 S1 bc) I1.out);have B5:=hid (B3.out.trans (bc.mono (qK HB.out K3.out.size)));have KD:=hid (Kd.new w4 (cs false SL) (cs true SL) (smb SL) (.slice A1 n1 c1) (.slice A2 30 c2) (.slice A3 T.length c3));clear q1 q2 q3 b4 bb bc u1 u2)
  |refine z0g rfl 160 _ _ rfl _ _ rfl _ rfl (HSt.out _ _ _ _ _ _ _) ?_)
 obtain⟨w5,hw5⟩:∃w5,w4.alloc (.cells (KV (cs false SL) (cs true SL) (smb SL) (.slice A1 n1 c1) (.slice A2 30 c2) (.slice A3 T.length c3)) 160)=w5:=⟨_,rfl⟩
 obtain⟨XX,hXX⟩:∃XX,w4.heap.size=XX:=⟨_,rfl⟩
 rw[hw5] at Q1 Q2 Q3 H5 K5 B5 KD ⊢;rw[hXX] at KD Z4 ⊢;have r5:=KD.out.at3;have hS1:∀j,S1 j→j<w3.heap.size:=fun j hj=>(H3.out.lt hj).2
 have HS1:=hid hS1;obtain⟨Y1,hY1⟩:∃Y1,hdb k last++T.flatMap cbs=Y1:=⟨_,rfl⟩
 have HY1:=hid hY1;rw[hY1]
 have HPw:=hid (show ∀ (w8:World) (A8:Option Addr) (c8:Nat),Wt w8 B p S1 most V o→z0b w8 A8 (hdc k last++T).length (hdc k last++T)→(∀b q,A8=some ⟨b,q,none⟩→¬S1 b)→Calls Tryz.prog 71 #[.pointer (some ⟨p,0,none⟩),.slice A8 (hdc k last++T).length c8] w8 (Put w8 B p S1 most V o [] Y1) from fun w8 A8 c8 h8 i8 f8=>by
  have:=z0X (X:=[]) (w:=w8) (B:=B) (p:=p) (S:=S1) (most:=most) (V:=V) (o:=o) A8 (hdc k last++T).length c8 (hdc k last++T) (by rw[zeM];exact h8) i8 f8 (fun c hc=>by
   rcases List.mem_append.1 hc with q|q
   · exact HHk.out c q
   · exact HTl.out.2 c q) (by simp[hdc]) (by have:=HTl.out.1;simp[hdc];omega) (by simp;omega)
  rw[List.flatMap_append,z87,HY1.out] at this;exact this)
 have HCc:=hid (show ∀ (w7:World) (z g:Nat),z<w7.heap.size→w7.heap[z]? =some (.cells #[.slice (some ⟨g,0,none⟩) 2 2,.slice A3 T.length c3] 118 (0,0))→z0b w7 (some ⟨g,0,none⟩) 2 (hdc k last)→z0b w7 A3 T.length T→Calls Tryz.prog 72 #[.slice (some ⟨z,0,none⟩) 2 2] w7 (Cck w7 (hdc k last++T)) from fun w7 z g hz hr i1 i2=>by
  have:=z77 z 2 [⟨some ⟨g,0,none⟩,2,2,hdc k last⟩,⟨A3,T.length,c3,T⟩] w7 rfl (by omega) hz (fun i hi=>by
   match i,hi with
   |0,_=>exact cell_of_row _ _ 0 _ _ (0,0) hr
   |1,_=>exact cell_of_row _ _ 1 _ _ (0,0) hr) (fun i hi=>by
   match i,hi with
   |0,_=>exact i1
   |1,_=>exact i2) (by simp[z5q,hdc]) (by have:=HTl.out.1;simp[z5q,hdc];omega)
  simpa [z5q] using this)
 unfold Cck at HCc;obtain⟨N,hN⟩:∃N,(hdc k last++T).length=N:=⟨_,rfl⟩
 rw[hN] at HPw HCc;have HNs:=hid hN;have HZ5:=hid (show XX<w5.heap.size from KD.out.lt);clear hN hw5 hXX hS1 hY1 HSt HCo HRf HLe HBi
 have HL1:=hid (show o+Y1.length≤100000000 from by
  rw[←HY1.out,qA,z04,z3r];have h1:=zeA (l:=T) (fun c hc=>qK (HTl.out.2 c hc).2 (by omega));have h2:=HTl.out.1;omega)
 by_cases m1:(((o+([]++Y1).length+7) /8:Nat):Int)≤most
 · have M1:=hid m1
   clear m1
   go_region_law (first
    |(rw[if_pos (by rfl)];go_simp;(with_reducible refine(HHd.out _).mono ?_);rintro e w6 ⟨g,rfl,ng,ig,bg⟩
      have b6:Below w5.heap.size w5 w6:=(Below.refl _ w5).drew.trans bg;have r6:=(KD.out.below b6).at3;have B6:=hid b6;have IG:=hid ig;have NG:=hid ng;clear b6 ig ng bg;dsimp only)
    |(rw[if_pos (by rfl)];go_simp;(with_reducible refine(HCc.out _ _ _ (by simp) (heap_alloc_new _ _) (IG.out.below ((Below.refl _ w6).alloc qR _)) ((Q3.out.below B6.out).below ((Below.refl _ w6).alloc qR _))).mono ?_);rintro e w8 ⟨A8,c8,rfl,f8,i8,b8⟩
      have b68:=B6.out.trans ((((Below.refl _ w6).alloc qR _).trans (b8.mono (by simp))).mono B6.out.size);have B8:=hid b68;have H8:=hid (H5.out.keep (Kept.of_below b68) (fun _ _ g=>g));have I8:=hid i8;have F8:=hid (show ∀b q,A8=some ⟨b,q,none⟩→¬S1 b from fun b q e hs=>by have h1:=f8 b q e;have h2:=HS1.out b hs;have h3:=Z4.out;have h4:=HZ5.out;have h5:=B6.out.size;simp at h1;omega);clear f8 i8 b8 b68;dsimp only)
    |(rw[if_pos (by rfl)];go_simp;(with_reducible refine(HPw.out _ _ _ H8.out I8.out F8.out).mono ?_);rintro e w9 hp;obtain⟨he,S9,h9,k9,i9⟩:=hp.1 M1.out;cases he;have H9:=hid h9;have K9:=hid k9;have I9:=hid i9;clear hp h9 k9 i9;dsimp only))
   all_goals
    have k59:=(z06 S1 B8.out).trans K9.out (fun j hj=> .inl hj);have hx:¬S1 XX:=fun hs=>by have h2:=HS1.out _ hs;have h3:=Z4.out;omega
    have kd9:Kd w9 XX (cs false SL) (cs true SL) (smb SL) (.slice A1 n1 c1) (.slice A2 30 c2) (.slice A3 T.length c3):=(k59.block XX HZ5.out hx).trans KD.out;have x1:=kd9.at1;have x2:=kd9.at2;have KK:=hid (K5.out.trans k59 I1.out)
    have II:=hid (show ∀j,S9 j→S j∨w.heap.size≤j from fun j hj=>by
     rcases I9.out j hj with q|q
     · exact I1.out j q
     · right;have h1:=K5.out.size;have h2:=B8.out.size;omega)
    have q1:=z09.keepS Q1.out k59 (fun b q e hs=>by have h2:=HS1.out _ hs;have h3:=U1.out b q e;omega);have q2:=z09.keepS Q2.out k59 (fun b q e hs=>by have h2:=HS1.out _ hs;have h3:=U2.out b q e;omega);have hs:=HSy.out w9 S9 ([]++Y1) A1 A2 c1 c2 (B5.out.trans (zdO H5.out k59)) H9.out q1 q2 (by have:=HL1.out;simpa using this);have HW:=hid hs;clear k59 hx kd9 q1 q2 hs;go_wp2_with (go_at_call 74;(with_reducible refine HW.out.mono ?_);rintro e w10 hp;obtain⟨v10,rfl⟩:=hp.ret;have P10:=hid (Put.step KK.out II.out hp);clear hp);go_ret;rw[HY1.out];exact P10.out
 · have M1:=hid m1
   clear m1
   go_region_law (first
    |(rw[if_pos (by rfl)];go_simp;(with_reducible refine(HHd.out _).mono ?_);rintro e w6 ⟨g,rfl,ng,ig,bg⟩
      have b6:Below w5.heap.size w5 w6:=(Below.refl _ w5).drew.trans bg;have r6:=(KD.out.below b6).at3;have B6:=hid b6;have IG:=hid ig;have NG:=hid ng;clear b6 ig ng bg;dsimp only)
    |(rw[if_pos (by rfl)];go_simp;(with_reducible refine(HCc.out _ _ _ (by simp) (heap_alloc_new _ _) (IG.out.below ((Below.refl _ w6).alloc qR _)) ((Q3.out.below B6.out).below ((Below.refl _ w6).alloc qR _))).mono ?_);rintro e w8 ⟨A8,c8,rfl,f8,i8,b8⟩
      have b68:=B6.out.trans ((((Below.refl _ w6).alloc qR _).trans (b8.mono (by simp))).mono B6.out.size);have B8:=hid b68;have H8:=hid (H5.out.keep (Kept.of_below b68) (fun _ _ g=>g));have I8:=hid i8;have F8:=hid (show ∀b q,A8=some ⟨b,q,none⟩→¬S1 b from fun b q e hs=>by have h1:=f8 b q e;have h2:=HS1.out b hs;have h3:=Z4.out;have h4:=HZ5.out;have h5:=B6.out.size;simp at h1;omega);clear f8 i8 b8 b68;dsimp only)
    |(rw[if_pos (by rfl)];go_simp;(with_reducible refine(HPw.out _ _ _ H8.out I8.out F8.out).mono ?_);rintro e w9 hp;obtain⟨he,k9⟩:=hp.2 (by have:=M1.out;omega);cases he;have K9:=hid (K5.out.trans ((z06 S1 B8.out).trans k9 (fun j hj=> .inl hj)) I1.out);clear hp k9;dsimp only))
   all_goals
    go_wp2;go_ret;rw[←qD,HY1.out];exact Put.full (by have:=M1.out;omega) rfl K9.out
end Go.Proofs.YtacelhaidcmbcaaGreatDoor.V
namespace Go.Proofs.YtacelhaidcmbcaaGreatDoor.V
open Go Go.RowKit M U
theorem zdb{w:World}{B p:Nat}{S:Nat→Prop}{most:Int}{V o:Nat}(k:Nat)(A:Option Addr)(n c:Nat)(L:List Tk)(raw:ByteArray)(last:Bool)(h:Wt w B p S most V o)(hB:B≤w.heap.size)(hTb:∀w',Below B w w'→z5p w')(hT:∀w',Below B w w'→IsTks w' A n L)(hL:o≤50000000)(hn:n≤100000)(hr:raw.size≤200000)(hk:k≤2)(hm:k≠0→∀t∈L,may t=true):
 Calls Tryz.prog 45 #[.pointer (some ⟨p,0,none⟩),.int .u8 k,.slice A n c,.string raw,.bool last] w (Put w B p S most V o [] (bkm k L raw last o)):=by
 by_cases hf:(((o+7) /8:Nat):Int)≤most
 · by_cases h0:k=0
   · subst h0
     exact zat A n c L raw last h hB hT hL hn hr hf
   · have hm':=hm h0
     by_cases h1:k=1
     · subst h1
       have g:=zeK 1 A n c L raw last 288 fxl (fun _=>5) [] (by omega) (by omega) h hB hTb hT hL hn hr hm' (fun w1 b=>z3l A n c L w1 (hTb w1 b).2 (hT w1 b) hn hm') (by omega) (by omega) ⟨by simp,fun c hc=>absurd hc (by simp)⟩ z2O z4f (fun i=>(zeZ i).2) (fun _=>by omega) hf;rw[List.flatMap_nil,List.append_nil] at g;rw[zci];unfold sfx;exact g
     · obtain rfl:k=2:=by omega
       have ht:=z5y L;have g:=zeK 2 A n c L raw last 286 (ll1 L) (ll2 L) (tbl (lx1 L) (lx2 L)) (by omega) (by omega) h hB hTb hT hL hn hr hm' (fun w1 b=>z4h A n c L w1 (hTb w1 b) (hT w1 b) hn hm') (by omega) (by omega) ⟨ht.1,fun c hc=>⟨(ht.2 c hc).2,qK (ht.2 c hc).1 (by omega)⟩⟩ (z1W _ (by decide) (by decide) (by decide) (by decide)) (z1W _ (by decide) (by decide) (by decide) (by decide)) (fun i=>z0e _ (by omega) (by decide) i) (fun i=>z0e _ (by omega) (by decide) i) hf;rw[z9V] at g;rw[zch];unfold sbs;exact g
 · exact zg3 k A n c raw last _ h hL hf
end Go.Proofs.YtacelhaidcmbcaaGreatDoor.V
