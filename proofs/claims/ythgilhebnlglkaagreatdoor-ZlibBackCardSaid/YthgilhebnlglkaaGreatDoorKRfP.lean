import Derived.Test.YthgilhebnlglkaaGreatDoorKMMathT
import Derived.RangeFuncNested
set_option linter.all false
namespace Go.Proofs.YthgilhebnlglkaaGreatDoor
namespace V
open Go Go.RowKit
def Gt(P:Program)(l:Nat)(R:Ending->World->Prop):Exit->Act->World->Prop
 |.normal,_,w=> ∃v w',(Instr.endRound l none).run P w=.ok v w'/\R (.returned v) w'
 |.panic ch,a,w=>a.defers=[]/\R (.panicked ch) w
 |_,_,_=>False
theorem lV{F:Fence}{n:Nat}{P:Program}{l:Nat}{f:FuncId}{tmps:Array Value}{d body:Code}{w:World}{R:Ending->World->Prop}(J:F.fn f)(hf:∃fn,P.funcs[f]? =some fn)
 (h:d.wpIn (F.inRound l) n P (Exit.then (λm p=> ∃k,(Instr.beginRound l).run P p=.ok () k/\body.wpIn (F.inRound l) n P (Gt P l R) m k) (λ_ _ _=>False))
  {tmps:=tmps,defers:=[]} w):
 RoundIn F n P l f tmps d body w R:=by
 refine⟨J,λc cs L=> ?_⟩;obtain⟨b,x⟩:∃b:Frame,b={(default:Frame) with fn:=f,kind:=.normal,roundOf:=some l}:=⟨_,rfl⟩
 have o:Frame.round l f tmps d body .normal=b.atR {tmps:=tmps,defers:=[]} [.code d,.beginRound,.code body]:=by
  rw[x];simp[Frame.round,Frame.atR]
 have C:b.fn=f:=(by rw[x]);have A:b.roundOf=(F.inRound l).round:=(by rw[x];rfl);have j:(F.inRound l).fn b.fn:=(by rw[C];exact J);have g:(F.inRound l).room ((c::cs).length+1+n):=L;obtain⟨e,m,p,u,z⟩:=h b [.beginRound,.code body] (c::cs) A j g;rw[o];cases e with
 |normal=>
  obtain⟨k,G,s⟩:=u;have I:=StepsIn.trans z (.one (fenced_calm (fr:=b.atR m [.beginRound,.code body]) j g rfl) (stepR_beginRound (by rw[x]) G));obtain⟨E,r,q,a,i⟩:=s b [] (c::cs) A j g;cases E with
  |normal=>
   obtain⟨v,B,y,H⟩:=a;exact⟨.returned v,B,H,StepsIn.trans I (StepsIn.trans i (.one (fenced_calm (fr:=b.atR r []) j g rfl) (stepR_round_end (by rw[x]) (by rw[x]) y)))⟩
  |panic ch=>
   obtain⟨M,H⟩:=a;obtain⟨D,hs⟩:=i;have K:((b.atR r D).raise ch).leaving P q (.panicked ch):=by
    refine⟨?_,?_,?_⟩
    · simp[Frame.raise,Frame.atR]
    · simpa [Frame.raise,Frame.atR] using M
    · obtain⟨fn,j⟩:=hf
      exact⟨fn,by simpa [Frame.raise,Frame.atR,C] using j⟩
   refine⟨.panicked ch,q,H,StepsIn.trans I (StepsIn.trans hs (.one (fenced_leaving ?_ g K) (step_leave_panicked K)))⟩
   simpa [Frame.raise,Frame.atR] using j
  |exit id=>exact a.elim
  |goto t=>exact a.elim
  |ret=>exact a.elim
  |outgrown=>exact a.elim
 |exit id=>exact u.elim
 |goto t=>exact u.elim
 |ret=>exact u.elim
 |panic ch=>exact u.elim
 |outgrown=>exact u.elim
def wpV(P:Program)(c:Code)(Q:Exit->Act->World->Prop)(a:Act)(w:World):Prop:=
 ∀ (b:Frame) (k:List Item) (cs:List Frame),b.roundOf=none->(∃fn,P.funcs[b.fn]? =some fn)->
  ∃e a' w',Q e a' w'/\ArrivesIn (Machine.fenced P Fence.wide) P (lone (b.atR a (.code c::k)) cs w) b k cs e a' w'
theorem jE{P:Program}{n:Nat}{c:Code}{Q:Exit->Act->World->Prop}{a:Act}{w:World}(h:c.wpIn Fence.wide n P Q a w):wpV P c Q a w:=
 λb k cs d _=>h b k cs d trivial (room_wide _)
theorem eZ{P:Program}{x y:Code}{Q:Exit->Act->World->Prop}{a:Act}{w:World}(h:wpV P x (Exit.then (λa w=>wpV P y Q a w) Q) a w):wpV P (Code.seq x y) Q a w:=by
 intro b k cs g hf;have p:StepsIn (Machine.fenced P Fence.wide) P (lone (b.atR a (.code (.seq x y)::k)) cs w) (lone (b.atR a (.code x::.code y::k)) cs w):=.one (fenced_calm trivial (room_wide (cs.length+1+0)) rfl) stepR_seq;obtain⟨e,j,m,q,d⟩:=h b (.code y::k) cs g hf;by_cases o:e=.normal
 · subst o
   obtain⟨n,l,i,f,c⟩:=q b k cs g hf;exact⟨n,l,i,f,.of_steps (StepsIn.trans p d) c⟩
 · refine⟨e,j,m,?_,.of_steps p (.pass (x:=.code y) rfl (λ_ _=> .inl o) d)⟩
   cases e with
   |normal=>exact absurd rfl o
   |_=>exact q
theorem rY{P:Program}{i:Nat}{c:Code}{Q:Exit->Act->World->Prop}{a:Act}{w:World}(h:wpV P c (λe a w=>(e=.normal\/∃l,e=.panic l)/\Q e a w) a w):wpV P (Code.block i c) Q a w:=by
 intro b k cs j hf;have m:StepsIn (Machine.fenced P Fence.wide) P (lone (b.atR a (.code (.block i c)::k)) cs w) (lone (b.atR a (.code c::.inBlock i::k)) cs w):=.one (fenced_calm trivial (room_wide (cs.length+1+0)) rfl) stepR_block;obtain⟨e,d,f,⟨o,n⟩,g⟩:=h b (.inBlock i::k) cs j hf;rcases o with rfl|⟨l,rfl⟩
 · have p:StepsIn (Machine.fenced P Fence.wide) P (lone (b.atR d (.inBlock i::k)) cs f) (lone (b.atR d k) cs f):=.one (fenced_calm trivial (room_wide (cs.length+1+0)) rfl) stepR_inBlock
   exact⟨.normal,d,f,n,StepsIn.trans m (StepsIn.trans g p)⟩
 · exact⟨.panic l,d,f,n,.of_steps m g⟩
theorem gI{P:Program}{n:Nat}{f:FuncId}{fn:Func}{c:Code}{args:Array Value}{w:World}{R:Ending->World->Prop}(hf:P.funcs[f]? =some fn)(y:fn.body=some c)
 (h:wpV P c (bodyPostM Fence.wide n P fn R) {tmps:=args++Array.replicate (fn.ntmps - args.size) undef,defers:=[]} w):CallsIn Fence.wide n P f args w R:=by
 refine⟨trivial,λcs t=> ?_⟩;obtain⟨b,g⟩:∃b:Frame,b={(default:Frame) with fn:=f,kind:=.normal,roundOf:=none}:=⟨_,rfl⟩
 have k:b.fn=f:=(by rw[g]);have o:b.kind=.normal:=(by rw[g]);have j:Frame.enter P f args .normal=b.atR {tmps:=args++Array.replicate (fn.ntmps - args.size) undef,defers:=[]} [.code c]:=by
  rw[g];simp[Frame.enter,Frame.atR,hf,y]
 obtain⟨e,a',w',m,d⟩:=h b [] cs (by rw[g]) ⟨fn,by rw[k];exact hf⟩;rw[j]
 have out:∀ (u:FrameMode) (a:List Item),LeavesInM Fence.wide n P fn a'.tmps R a'.defers u w'->StepsIn (Machine.fenced P Fence.wide) P (lone (b.atR {tmps:=args++Array.replicate (fn.ntmps - args.size) undef,defers:=[]} [.code c]) cs w) (lone {b.atR a' a with mode:=u} cs w')->
  ∃e i fr,R e i/\ComesIn (Machine.fenced P Fence.wide) P (lone (b.atR {tmps:=args++Array.replicate (fn.ntmps - args.size) undef,defers:=[]} [.code c]) cs w) (lone fr cs i) e/\fr.fn=f/\fr.leaving P i e:=λu a x hs=>by
  obtain⟨e',i,q,v,s,p,r⟩:=leaves_stepsInM a'.defers u w' {b.atR a' a with mode:=u} cs rfl rfl rfl (by simpa [Frame.atR,k] using hf) (by simpa [Frame.atR] using o) trivial t x;exact⟨e',i,q,v,ComesIn.of_steps hs s,by rw[p];simp[Frame.atR,k],r⟩
 cases e with
 |normal=>exact out .returning [] m (StepsIn.trans d (.one (fenced_calm (fr:=b.atR a' []) trivial t rfl) (stepR_end (by rw[g]))))
 |ret=>
  obtain⟨a,hs⟩:=d.1 (by rw[g]);exact out .returning a m hs
 |panic ch=>
  obtain⟨a,hs⟩:=d;exact out (.panicking ch) a m hs
 |exit id=>exact m.elim
 |goto l=>exact m.elim
 |outgrown=>exact⟨.outgrown,w',b,m,d.resolve_left (by rw[o];simp),k,trivial⟩
def LI{α:Type}(n:Nat)(P:Program)(g:Nat)(lb:Array Value)(encs:α->Array Value)(S Sp Sx:List α->Prop)(w:World):Prop:=
 ∀ (l:Nat) (J:List α×(Nat->Prop)->World->Prop) (Jx:List α->World->Prop) (Jp:List PanicEntry->List α->World->Prop) (W:World),Below w.heap.size w W->AbidesFrom W.heap.size J->AbidesFrom W.heap.size Jx->(∀ch,AbidesFrom W.heap.size (Jp ch))->
  (∀pre T W1,J (pre,T) W1->∀j,T j->w.heap.size<=j/\j<W1.heap.size)->
  (∀pre T x W1,J (pre,T) W1->Sx (pre++[x])->YieldAt Fence.wide (n - 1) P l (encs x) W1 λe W'=>
   (e=.returned (.bool true)/\∃T',J (pre++[x],T') W'/\M.Kept T W1 W'/\∀j,T' j->T j\/W1.heap.size<=j)\/(e=.returned (.bool false)/\Jx (pre++[x]) W')\/(∃ch,e=.panicked ch/\Jp ch (pre++[x]) W'))->
  (∃T,J ([],T) W)->
  CallsIn Fence.wide n P g (#[.func (.yield l) #[] #[]]++lb) W λe W'=>(∃v,e=.returned v/\((∃xs,S xs/\∃T,J (xs,T) W')\/(∃pre,Sp pre/\Jx pre W')))\/(∃ch pre,e=.panicked ch/\Sx pre/\Jp ch pre W')
theorem uF{T:Nat->Prop}{l:Nat}(W:World)(a:Obj):M.Kept (λj=>T j\/j=l) W (W.putObj l a):=
 (M.Kept.refl _ W).grown (grownBy_putObj' W l a) (λk e=>by cases e;exact .inl (.inr rfl))
theorem uD{T:Nat->Prop}{l:Nat}{A B:World}(h:M.Kept T A B):M.Kept (λj=>T j\/j=l) A B:=h.mono λj a=> .inl a
theorem mu{T:Nat->Prop}{A B C:World}(h:M.Kept T A B)(k:M.Kept T B C):M.Kept T A C:=h.trans k λj a=> .inl a
theorem rX{α:Type}{n:Nat}{P:Program}{g:Operand}{ps:Array Tmp}{assign body:Code}{Q:Exit->Act->World->Prop}{a:Act}{w:World}{gf:Nat}{lb:Array Value}(N:a.eval g=.func (.func gf) #[] lb)
 (eg:∀args w,(callFunc gf args).run P w=.ok (.enter gf args) w) {z:α->Array Value} {S Sp Sx:List α->Prop} {w0:World} (a9:LI n P gf lb z S Sp Sx w0)
 (a2:Below w0.heap.size w0 w) (au:∀x,(z x).size=ps.size)
 (I:List α×(Nat->Prop)->World->Prop) (Ip:List PanicEntry->List α->World->Prop) (hI:OwnFrom w.heap.size I) (ai:∀y,OwnFrom w.heap.size (Ip y)) (ak:∀c T W,I (c,T) W->∀j,T j->w0.heap.size<=j/\j<W.heap.size)
 (T0:Nat->Prop) (h0:I ([],T0) w) (Ax:α->Act->World->Prop) (ap:∀x a',OwnFrom w.heap.size (λ(_:Unit) W=>Ax x a' W))
 (H:∀ (l:Nat) (c:List α) (T:Nat->Prop) (x:α) (W:World) (K:Act->World->Prop),I (c,T) W->(∀a' G,KeepsFrom w.heap.size W G->M.Kept T W G->I (c,T) G->Ax x a' G->K a' G)->
  assign.wpIn (Fence.wide.inRound l) (n - 1) P (Exit.then K (λ_ _ _=>False)) {tmps:=(ps.zip (z x)).foldl (λt (p,v)=>t.setIfInBounds p v) a.tmps,defers:=[]} W)
 (a4:∀ (l:Nat) (c:List α) (T:Nat->Prop) (x:α) (a':Act) (W:World),w.heap.size<=l->(∃r,W.heap[l]? =some (.loop r))->I (c,T) W->Ax x a' W->Sx (c++[x])->
  body.wpIn (Fence.wide.inRound l) (n - 1) P (λe _ G=>e=.normal/\KeepsFrom w.heap.size W G/\∃T',M.Kept T W G/\I (c++[x],T') G/\∀j,T' j->T j\/W.heap.size<=j) a' W\/
  body.wpIn (Fence.wide.inRound l) (n - 1) P (λe a G=> ∃y,e=.panic y/\a.defers=[]/\KeepsFrom w.heap.size W G/\Ip y (c++[x]) G) a' W)
 (a1:∀ (D:Nat) (xs:List α) (T:Nat->Prop) (W:World),w.heap.size<=D->S xs->I (xs,T) W->W.heap[D]? =some (.deferred (some []))->Q .normal {a with defers:={target:=.collected D,args:= #[]}::a.defers} W)
 (R:∀ (D:Nat) (y:List PanicEntry) (c:List α) (W:World),w.heap.size<=D->Sx c->Ip y c W->W.heap[D]? =some (.deferred (some []))->Q (.panic y) {a with defers:={target:=.collected D,args:= #[]}::a.defers} W):
 wpV P (Code.rangeFunc g ps assign body) Q a w:=by
 intro b k cs aq hf;obtain⟨m,d⟩:∃m:LoopState->Option Code->Loop,m=λst pe=> {state:=st,pending:=pe,fn:=b.fn,tmps:=a.tmps,params:=ps,assign,body,defers:=w.heap.size}:=⟨_,rfl⟩
 obtain⟨W1,F⟩:∃W1,(w.alloc (.deferred (some []))).alloc (.loop (m .ready none))=W1:=⟨_,rfl⟩
 have e1:W1.heap.size=w.heap.size+1+1:=(by rw[<-F];simp);have aw:W1.heap[w.heap.size+1]? =some (.loop (m .ready none)):=by
  rw[<-F];have:=World.alloc_heap_new (w.alloc (.deferred (some []))) (.loop (m .ready none));rwa [World.size_alloc] at this
 have ax:W1.heap[w.heap.size]? =some (.deferred (some [])):=by
  rw[<-F];exact(Below.heap_alloc _ _ _ (by simp)).trans (World.alloc_heap_new w _)
 have ar:I ([],T0) W1:=(by rw[<-F];exact hI.alloc _ (hI.alloc _ h0));have am:Below w0.heap.size w0 W1:=by
  rw[<-F];exact a2.trans ((((Below.refl _ w).alloc qR _).alloc (by simp) _).mono a2.size)
 -- what may be written by the one that is ranged over are walks' blocks alone
 have a7:∀ {A:World} {row:Option Nat},(∀r,row=some r->W1.heap.size<=r/\∃o:Obj,A.heap[r]? =some o/\o.isWalk=true)->∀r,row=some r->w.heap.size<=r/\∃o:Obj,A.heap[r]? =some o/\o.isCells=false:=
  λE r e=>let⟨h1,o,h2,h3⟩:=E r e;⟨by omega,o,h2,Obj.not_cells_of_walk h3⟩
 have L:∀ {A B:World} {row:Option Nat} {i:Nat} {o:Obj},A.grownBy B row->(∀r,row=some r->W1.heap.size<=r/\∃o:Obj,A.heap[r]? =some o/\o.isWalk=true)->A.heap[i]? =some o->i<W1.heap.size->B.heap[i]? =some o:=
  λN E hi az=>(N.block _ (qW.1 hi).1 (λe=>by have:=(E _ e.symm).1;omega)).trans hi
 have run:=a9 (w.heap.size+1)
  (λs W=>(∃T:Nat->Prop,s.2=(λj=>T j\/j=w.heap.size+1)/\I (s.1,T) W)/\W.heap[w.heap.size+1]? =some (.loop (m .ready none))/\W.heap[w.heap.size]? =some (.deferred (some [])))
  (λ_ _=>False) (λy c W=>Ip y c W/\W.heap[w.heap.size]? =some (.deferred (some []))) W1 am
  (λs A B row hs N E=>⟨hs.1.elim λT h=>Exists.intro T ⟨h.1,hI _ A B row h.2 N (a7 E)⟩,L N E hs.2.1 (by omega),L N E hs.2.2 (by omega)⟩)
  (λ_ _ _ _ hs _ _=>hs)
  (λy s A B row hs N E=>⟨ai y s A B row hs.1 N (a7 E),L N E hs.2 (by omega)⟩)
  (by
   rintro c T2 W2 ⟨⟨T,J,hi⟩,hl,hk⟩ j hj;simp only at J hi;rw[J] at hj;rcases hj with hj|rfl
   · exact ak c T W2 hi j hj
   · have:=a2.size
     exact⟨by omega,(qW.1 hl).1⟩)
  (by
   rintro c T2 x W ⟨⟨T,J,hi⟩,hl,hk⟩ a6;simp only at J hi;subst J;have hy:=run_yield (P:=P) (args:=z x) hl (by rw[d];exact au x);rw[d] at hy;refine⟨b.fn,_,assign,body,hy,?_⟩;clear hy
   -- once what stands ahead of the body is walked,the round is begun
   have V:∀ (Y:World),KeepsFrom w.heap.size W Y->I (c,T) Y->∃O,(Instr.beginRound (w.heap.size+1)).run P Y=.ok () O/\I (c,T) O/\M.Kept (λj=>T j\/j=w.heap.size+1) Y O/\(∀x a',Ax x a' Y->Ax x a' O)/\O.heap[w.heap.size+1]? =some (.loop {m .ready none with state:=.busy})/\O.heap[w.heap.size]? =some (.deferred (some [])):=λY aa a0=>by
    have l1:=aa.same _ _ (by omega) hl rfl;have k1:=aa.same _ _ qR hk rfl
    exact⟨_,run_beginRound l1 (by rw[d]),hI.putObj _ a0 (by omega) l1 rfl,uF _ _,λx a' hx=>(ap x a').putObj (s:=()) _ hx (by omega) l1 rfl,
     World.putObj_heap_same (qW.1 l1).1,(World.putObj_heap_other (by omega)).trans k1⟩
   refine lV trivial hf (H _ c T x W _ hi ?_);intro a' Y an ae a0 aj;obtain⟨O,ag,av,af,ad,ab,hdb⟩:=V Y an a0;refine⟨O,ag,?_⟩;rcases a4 _ c T x a' O (by omega) ⟨_,ab⟩ av (ad _ _ aj) a6 with hgo|hno
   · refine wpIn_mono hgo ?_
     rintro e a3 W3 ⟨rfl,X,T',a5,ao,ah⟩;have l3:=X.same _ _ (by omega) ab rfl;have k3:=X.same _ _ qR hdb rfl;have E:=run_endRound (P:=P) none l3;rw[d] at E;have hz:W.heap.size<=O.heap.size:=qK ae.size af.size;refine⟨_,_,E,.inl ⟨rfl,λj=>T' j\/j=w.heap.size+1,⟨⟨T',rfl,?_⟩,?_,?_⟩,mu (uD ae) (mu af (mu (uD a5) (uF _ _))),?_⟩⟩
     · exact hI.putObj _ ao (by omega) l3 rfl
     · rw[d];exact World.putObj_heap_same (qW.1 l3).1
     · exact(World.putObj_heap_other (by omega)).trans k3
     · rintro j (hj|rfl)
       · rcases ah j hj with q|q
         · exact .inl (.inl q)
         · exact .inr (by omega)
       · exact .inl (.inr rfl)
   · refine wpIn_mono hno ?_
     rintro e a3 W3 ⟨y,rfl,hd,X,a5⟩;exact⟨hd,.inr (.inr ⟨y,rfl,a5,X.same _ _ qR hdb rfl⟩)⟩)
  ⟨_,⟨⟨T0,rfl,ar⟩,aw,ax⟩⟩
 have ac:(resolve a.eval (rangeCall g (w.heap.size+1)) 0).run P W1=.ok {target:=.fn (.func gf) lb,args:= #[.func (.yield (w.heap.size+1)) #[] #[]]} W1:=by
  simp only[resolve,N];simp[go_sem]
 have a8:(invoke (Target.fn (.func gf) lb) #[.func (.yield (w.heap.size+1)) #[] #[]]).run P W1=.ok (.enter gf (#[.func (.yield (w.heap.size+1)) #[] #[]]++lb)) W1:=(by simp[invoke,go_sem,eg]);have he:(Instr.enterLoop b.fn a.tmps ps assign body b.roundOf).run P w=.ok (w.heap.size+1,[{target:=.collected w.heap.size,args:= #[]}]) W1:=by
  rw[aq,<-F,d];exact run_enterLoop_outer _ _ _ _ _
 have U:=stepR_rangeFunc (P:=P) (b:=b) (a:=a) (k:=k) (cs:=cs) (w:=w) he ac a8;obtain⟨e,u,fr,hR,C,ay,f⟩:=run.2 (b.atR {a with defers:=[{target:=.collected w.heap.size,args:= #[]}]++a.defers} (.inRangeFunc (w.heap.size+1)::k)::cs) (room_wide _);have s0:StepsIn (Machine.fenced P Fence.wide) P (lone (b.atR a (.code (.rangeFunc g ps assign body)::k)) cs w) _:=.one (fenced_lone (.inl trivial) (λ_ _=>trivial) (room_wide _)) U;rcases hR with⟨v,rfl,⟨xs,hS,T2,⟨T,_,hi⟩,hl,hk⟩|⟨c,_,hx⟩⟩|⟨y,c,rfl,al,hp,hk⟩
 · have Z:=run_endLoop (P:=P) hl (by rw[d];simp)
   rw[show(m .ready none).pending=none by rw[d]] at Z;refine⟨.normal,_,u.putObj (w.heap.size+1) (.loop {m .ready none with state:=.exhausted,pending:=none}),a1 w.heap.size xs T _ qR hS (hI.putObj _ hi (by omega) hl rfl) ((World.putObj_heap_other (by omega)).trans hk),?_⟩;have s1:StepsIn (Machine.fenced P Fence.wide) P (lone fr (b.atR {a with defers:=[{target:=.collected w.heap.size,args:= #[]}]++a.defers} (.inRangeFunc (w.heap.size+1)::k)::cs) u) (lone (b.atR {a with defers:=[{target:=.collected w.heap.size,args:= #[]}]++a.defers} (.endRangeFunc (w.heap.size+1)::k)) cs u):=by
    refine .one (fenced_leaving (n:=0) trivial (room_wide _) f) ?_
    rw[<-finish_atR_inRangeFunc (w.heap.size+1) v];exact step_leave_returned f
   have s2:StepsIn (Machine.fenced P Fence.wide) P (lone (b.atR {a with defers:=[{target:=.collected w.heap.size,args:= #[]}]++a.defers} (.endRangeFunc (w.heap.size+1)::k)) cs u) (lone (b.atR {a with defers:=[{target:=.collected w.heap.size,args:= #[]}]++a.defers} k) cs (u.putObj (w.heap.size+1) (.loop {m .ready none with state:=.exhausted,pending:=none}))):=
    .one (fenced_calm (n:=0) (fr:=b.atR {a with defers:=[{target:=.collected w.heap.size,args:= #[]}]++a.defers} (.endRangeFunc (w.heap.size+1)::k)) trivial (room_wide _) rfl) (stepR_endRangeFunc Z)
   exact StepsIn.trans s0 (StepsIn.trans C (StepsIn.trans s1 s2))
 · exact hx.elim
 · refine⟨.panic y,_,u,R w.heap.size y c _ qR al hp hk,.inRangeFunc (w.heap.size+1)::k,StepsIn.trans s0 (StepsIn.trans C (.one (fenced_leaving (n:=0) trivial (room_wide _) f) ?_))⟩
   rw[<-Frame.raise_atR];exact step_leave_panicked f
