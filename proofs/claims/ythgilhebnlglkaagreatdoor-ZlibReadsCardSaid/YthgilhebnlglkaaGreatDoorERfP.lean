import Derived.Test.YthgilhebnlglkaaGreatDoorEMMathT
import Derived.RangeFuncNested
set_option linter.all false
namespace Go.Proofs.YthgilhebnlglkaaGreatDoor.V
open Go Go.RowKit
def zh1(P:Program)(l:Nat)(R:Ending->World->Prop):Exit->Act->World->Prop
 |.normal,_,w=> ∃v w',(Instr.endRound l none).run P w=.ok v w'/\R (.returned v) w'
 |.panic ch,a,w=>a.defers=[]/\R (.panicked ch) w
 |_,_,_=>False
theorem z6f{F:Fence}{n:Nat}{P:Program}{l:Nat}{f:FuncId}{tmps:Array Value}{assign body:Code}{w:World}{R:Ending->World->Prop}(hF:F.fn f)(hf:∃fn,P.funcs[f]? =some fn)
 (h:assign.wpIn (F.inRound l) n P (Exit.then (λa₁ w₁=> ∃w₂,(Instr.beginRound l).run P w₁=.ok () w₂/\body.wpIn (F.inRound l) n P (zh1 P l R) a₁ w₂) (λ_ _ _=>False))
  {tmps:=tmps,defers:=[]} w):
 RoundIn F n P l f tmps assign body w R:=by
 refine⟨hF,λc cs hr=> ?_⟩;obtain⟨b,hb⟩:∃b:Frame,b={(default:Frame) with fn:=f,kind:=.normal,roundOf:=some l}:=⟨_,rfl⟩
 have hstart:Frame.round l f tmps assign body .normal=b.atR {tmps:=tmps,defers:=[]} [.code assign,.beginRound,.code body]:=by
  rw[hb];simp[Frame.round,Frame.atR]
 have hbf:b.fn=f:=(by rw[hb]);have hro:b.roundOf=(F.inRound l).round:=(by rw[hb];rfl);have hfn:(F.inRound l).fn b.fn:=(by rw[hbf];exact hF);have hroom:(F.inRound l).room ((c::cs).length+1+n):=hr;obtain⟨e,a₁,w₁,hq,harr⟩:=h b [.beginRound,.code body] (c::cs) hro hfn hroom;rw[hstart];cases e with
 |normal=>
  obtain⟨w₂,hbr,hbody⟩:=hq;have s1:=StepsIn.trans harr (.one (fenced_calm (fr:=b.atR a₁ [.beginRound,.code body]) hfn hroom rfl) (stepR_beginRound (by rw[hb]) hbr));obtain⟨e₂,a₂,w₃,hq₂,harr₂⟩:=hbody b [] (c::cs) hro hfn hroom;cases e₂ with
  |normal=>
   obtain⟨v,w₄,hend,hR⟩:=hq₂;exact⟨.returned v,w₄,hR,StepsIn.trans s1 (StepsIn.trans harr₂ (.one (fenced_calm (fr:=b.atR a₂ []) hfn hroom rfl) (stepR_round_end (by rw[hb]) (by rw[hb]) hend)))⟩
  |panic ch=>
   obtain⟨hd,hR⟩:=hq₂;obtain⟨k₁,hs⟩:=harr₂;have hl:((b.atR a₂ k₁).raise ch).leaving P w₃ (.panicked ch):=by
    refine⟨?_,?_,?_⟩
    · simp[Frame.raise,Frame.atR]
    · simpa [Frame.raise,Frame.atR] using hd
    · obtain⟨fn,hfn⟩:=hf
      exact⟨fn,by simpa [Frame.raise,Frame.atR,hbf] using hfn⟩
   refine⟨.panicked ch,w₃,hR,StepsIn.trans s1 (StepsIn.trans hs (.one (fenced_leaving ?_ hroom hl) (step_leave_panicked hl)))⟩
   simpa [Frame.raise,Frame.atR] using hfn
  |exit id=>exact hq₂.elim
  |goto t=>exact hq₂.elim
  |ret=>exact hq₂.elim
  |outgrown=>exact hq₂.elim
 |exit id=>exact hq.elim
 |goto t=>exact hq.elim
 |ret=>exact hq.elim
 |panic ch=>exact hq.elim
 |outgrown=>exact hq.elim
def wpV(P:Program)(c:Code)(Q:Exit->Act->World->Prop)(a:Act)(w:World):Prop:=
 ∀ (b:Frame) (k:List Item) (cs:List Frame),b.roundOf=none->(∃fn,P.funcs[b.fn]? =some fn)->
  ∃e a' w',Q e a' w'/\ArrivesIn (Machine.fenced P Fence.wide) P (lone (b.atR a (.code c::k)) cs w) b k cs e a' w'
theorem z53{P:Program}{n:Nat}{c:Code}{Q:Exit->Act->World->Prop}{a:Act}{w:World}(h:c.wpIn Fence.wide n P Q a w):wpV P c Q a w:=
 λb k cs hro _=>h b k cs hro trivial (room_wide _)
theorem z2M{P:Program}{x y:Code}{Q:Exit->Act->World->Prop}{a:Act}{w:World}(h:wpV P x (Exit.then (λa w=>wpV P y Q a w) Q) a w):wpV P (Code.seq x y) Q a w:=by
 intro b k cs hro hf;have s0:StepsIn (Machine.fenced P Fence.wide) P (lone (b.atR a (.code (.seq x y)::k)) cs w) (lone (b.atR a (.code x::.code y::k)) cs w):=.one (fenced_calm trivial (room_wide (cs.length+1+0)) rfl) stepR_seq;obtain⟨e,a₁,w₁,hq,harr⟩:=h b (.code y::k) cs hro hf;by_cases hn:e=.normal
 · subst hn
   obtain⟨e₂,a₂,w₂,hq₂,harr₂⟩:=hq b k cs hro hf;exact⟨e₂,a₂,w₂,hq₂,.of_steps (StepsIn.trans s0 harr) harr₂⟩
 · refine⟨e,a₁,w₁,?_,.of_steps s0 (.pass (x:=.code y) rfl (λ_ _=> .inl hn) harr)⟩
   cases e with
   |normal=>exact absurd rfl hn
   |_=>exact hq
theorem z9z{P:Program}{id:Nat}{c:Code}{Q:Exit->Act->World->Prop}{a:Act}{w:World}(h:wpV P c (λe a w=>(e=.normal\/∃ch,e=.panic ch)/\Q e a w) a w):wpV P (Code.block id c) Q a w:=by
 intro b k cs hro hf;have s0:StepsIn (Machine.fenced P Fence.wide) P (lone (b.atR a (.code (.block id c)::k)) cs w) (lone (b.atR a (.code c::.inBlock id::k)) cs w):=.one (fenced_calm trivial (room_wide (cs.length+1+0)) rfl) stepR_block;obtain⟨e,a₁,w₁,⟨he,hq⟩,harr⟩:=h b (.inBlock id::k) cs hro hf;rcases he with rfl|⟨ch,rfl⟩
 · have s1:StepsIn (Machine.fenced P Fence.wide) P (lone (b.atR a₁ (.inBlock id::k)) cs w₁) (lone (b.atR a₁ k) cs w₁):=.one (fenced_calm trivial (room_wide (cs.length+1+0)) rfl) stepR_inBlock
   exact⟨.normal,a₁,w₁,hq,StepsIn.trans s0 (StepsIn.trans harr s1)⟩
 · exact⟨.panic ch,a₁,w₁,hq,.of_steps s0 harr⟩
theorem z3H{P:Program}{n:Nat}{f:FuncId}{fn:Func}{c:Code}{args:Array Value}{w:World}{R:Ending->World->Prop}(hf:P.funcs[f]? =some fn)(hb:fn.body=some c)
 (h:wpV P c (bodyPostM Fence.wide n P fn R) {tmps:=args++Array.replicate (fn.ntmps - args.size) undef,defers:=[]} w):CallsIn Fence.wide n P f args w R:=by
 refine⟨trivial,λcs hr=> ?_⟩;obtain⟨b,hbe⟩:∃b:Frame,b={(default:Frame) with fn:=f,kind:=.normal,roundOf:=none}:=⟨_,rfl⟩
 have hbf:b.fn=f:=(by rw[hbe]);have hbk:b.kind=.normal:=(by rw[hbe]);have hstart:Frame.enter P f args .normal=b.atR {tmps:=args++Array.replicate (fn.ntmps - args.size) undef,defers:=[]} [.code c]:=by
  rw[hbe];simp[Frame.enter,Frame.atR,hf,hb]
 obtain⟨e,a',w',hq,harr⟩:=h b [] cs (by rw[hbe]) ⟨fn,by rw[hbf];exact hf⟩;rw[hstart]
 have out:∀ (u:FrameMode) (todo:List Item),LeavesInM Fence.wide n P fn a'.tmps R a'.defers u w'->StepsIn (Machine.fenced P Fence.wide) P (lone (b.atR {tmps:=args++Array.replicate (fn.ntmps - args.size) undef,defers:=[]} [.code c]) cs w) (lone {b.atR a' todo with mode:=u} cs w')->
  ∃e w'' fr,R e w''/\ComesIn (Machine.fenced P Fence.wide) P (lone (b.atR {tmps:=args++Array.replicate (fn.ntmps - args.size) undef,defers:=[]} [.code c]) cs w) (lone fr cs w'') e/\fr.fn=f/\fr.leaving P w'' e:=λu todo hl hs=>by
  obtain⟨e',w'',fr',hR,hs',hfn',hl'⟩:=leaves_stepsInM a'.defers u w' {b.atR a' todo with mode:=u} cs rfl rfl rfl (by simpa [Frame.atR,hbf] using hf) (by simpa [Frame.atR] using hbk) trivial hr hl;exact⟨e',w'',fr',hR,ComesIn.of_steps hs hs',by rw[hfn'];simp[Frame.atR,hbf],hl'⟩
 cases e with
 |normal=>exact out .returning [] hq (StepsIn.trans harr (.one (fenced_calm (fr:=b.atR a' []) trivial hr rfl) (stepR_end (by rw[hbe]))))
 |ret=>
  obtain⟨todo,hs⟩:=harr.1 (by rw[hbe]);exact out .returning todo hq hs
 |panic ch=>
  obtain⟨todo,hs⟩:=harr;exact out (.panicking ch) todo hq hs
 |exit id=>exact hq.elim
 |goto l=>exact hq.elim
 |outgrown=>exact⟨.outgrown,w',b,hq,harr.resolve_left (by rw[hbk];simp),hbf,trivial⟩
def zkt{α:Type}(n:Nat)(P:Program)(g:Nat)(lb:Array Value)(encs:α->Array Value)(S Sp Sx:List α->Prop)(w:World):Prop:=
 ∀ (l:Nat) (J:List α×(Nat->Prop)->World->Prop) (Jx:List α->World->Prop) (Jp:List PanicEntry->List α->World->Prop) (W:World),Below w.heap.size w W->AbidesFrom W.heap.size J->AbidesFrom W.heap.size Jx->(∀ch,AbidesFrom W.heap.size (Jp ch))->
  (∀pre T W1,J (pre,T) W1->∀j,T j->w.heap.size<=j/\j<W1.heap.size)->
  (∀pre T x W1,J (pre,T) W1->Sx (pre++[x])->YieldAt Fence.wide (n - 1) P l (encs x) W1 λe W'=>
   (e=.returned (.bool true)/\∃T',J (pre++[x],T') W'/\M.Kept T W1 W'/\∀j,T' j->T j\/W1.heap.size<=j)\/(e=.returned (.bool false)/\Jx (pre++[x]) W')\/(∃ch,e=.panicked ch/\Jp ch (pre++[x]) W'))->
  (∃T,J ([],T) W)->
  CallsIn Fence.wide n P g (#[.func (.yield l) #[] #[]]++lb) W λe W'=>(∃v,e=.returned v/\((∃xs,S xs/\∃T,J (xs,T) W')\/(∃pre,Sp pre/\Jx pre W')))\/(∃ch pre,e=.panicked ch/\Sx pre/\Jp ch pre W')
theorem zbp{T:Nat->Prop}{l:Nat}(W:World)(o':Obj):M.Kept (λj=>T j\/j=l) W (W.putObj l o'):=
 (M.Kept.refl _ W).grown (grownBy_putObj' W l o') (λk e=>by cases e;exact .inl (.inr rfl))
theorem zbo{T:Nat->Prop}{l:Nat}{A B:World}(h:M.Kept T A B):M.Kept (λj=>T j\/j=l) A B:=h.mono λj hj=> .inl hj
theorem z6z{T:Nat->Prop}{A B C:World}(h:M.Kept T A B)(k:M.Kept T B C):M.Kept T A C:=h.trans k λj hj=> .inl hj
theorem z9y{α:Type}{n:Nat}{P:Program}{g:Operand}{ps:Array Tmp}{assign body:Code}{Q:Exit->Act->World->Prop}{a:Act}{w:World}{gf:Nat}{lb:Array Value}(hg:a.eval g=.func (.func gf) #[] lb)
 (eg:∀args w,(callFunc gf args).run P w=.ok (.enter gf args) w) {encs:α->Array Value} {S Sp Sx:List α->Prop} {w0:World} (hseq:zkt n P gf lb encs S Sp Sx w0)
 (hb0:Below w0.heap.size w0 w) (hps:∀x,(encs x).size=ps.size)
 (I:List α×(Nat->Prop)->World->Prop) (Ip:List PanicEntry->List α->World->Prop) (hI:OwnFrom w.heap.size I) (hIp:∀ch,OwnFrom w.heap.size (Ip ch)) (hIT:∀pre T W,I (pre,T) W->∀j,T j->w0.heap.size<=j/\j<W.heap.size)
 (T0:Nat->Prop) (h0:I ([],T0) w) (Ax:α->Act->World->Prop) (hAx:∀x a',OwnFrom w.heap.size (λ(_:Unit) W=>Ax x a' W))
 (hassign:∀ (l:Nat) (pre:List α) (T:Nat->Prop) (x:α) (W:World) (K:Act->World->Prop),I (pre,T) W->(∀a' W',KeepsFrom w.heap.size W W'->M.Kept T W W'->I (pre,T) W'->Ax x a' W'->K a' W')->
  assign.wpIn (Fence.wide.inRound l) (n - 1) P (Exit.then K (λ_ _ _=>False)) {tmps:=(ps.zip (encs x)).foldl (λt (p,v)=>t.setIfInBounds p v) a.tmps,defers:=[]} W)
 (hbody:∀ (l:Nat) (pre:List α) (T:Nat->Prop) (x:α) (a':Act) (W:World),w.heap.size<=l->(∃r,W.heap[l]? =some (.loop r))->I (pre,T) W->Ax x a' W->Sx (pre++[x])->
  body.wpIn (Fence.wide.inRound l) (n - 1) P (λe _ W'=>e=.normal/\KeepsFrom w.heap.size W W'/\∃T',M.Kept T W W'/\I (pre++[x],T') W'/\∀j,T' j->T j\/W.heap.size<=j) a' W\/
  body.wpIn (Fence.wide.inRound l) (n - 1) P (λe a W'=> ∃ch,e=.panic ch/\a.defers=[]/\KeepsFrom w.heap.size W W'/\Ip ch (pre++[x]) W') a' W)
 (hdone:∀ (D:Nat) (xs:List α) (T:Nat->Prop) (W:World),w.heap.size<=D->S xs->I (xs,T) W->W.heap[D]? =some (.deferred (some []))->Q .normal {a with defers:={target:=.collected D,args:= #[]}::a.defers} W)
 (hpanic:∀ (D:Nat) (ch:List PanicEntry) (pre:List α) (W:World),w.heap.size<=D->Sx pre->Ip ch pre W->W.heap[D]? =some (.deferred (some []))->Q (.panic ch) {a with defers:={target:=.collected D,args:= #[]}::a.defers} W):
 wpV P (Code.rangeFunc g ps assign body) Q a w:=by
 intro b k cs hro hf;obtain⟨rec,hrec⟩:∃rec:LoopState->Option Code->Loop,rec=λst pe=> {state:=st,pending:=pe,fn:=b.fn,tmps:=a.tmps,params:=ps,assign,body,defers:=w.heap.size}:=⟨_,rfl⟩
 obtain⟨W1,hW1⟩:∃W1,(w.alloc (.deferred (some []))).alloc (.loop (rec .ready none))=W1:=⟨_,rfl⟩
 have e1:W1.heap.size=w.heap.size+1+1:=(by rw[<-hW1];simp);have hL1:W1.heap[w.heap.size+1]? =some (.loop (rec .ready none)):=by
  rw[<-hW1];have:=World.alloc_heap_new (w.alloc (.deferred (some []))) (.loop (rec .ready none));rwa [World.size_alloc] at this
 have hK1:W1.heap[w.heap.size]? =some (.deferred (some [])):=by
  rw[<-hW1];exact(Below.heap_alloc _ _ _ (by simp)).trans (World.alloc_heap_new w _)
 have hI1:I ([],T0) W1:=(by rw[<-hW1];exact hI.alloc _ (hI.alloc _ h0));have hb1:Below w0.heap.size w0 W1:=by
  rw[<-hW1];exact hb0.trans ((((Below.refl _ w).alloc qR _).alloc (by simp) _).mono hb0.size)
 -- what may be written by the one that is ranged over are walks' blocks alone
 have far:∀ {A:World} {row:Option Nat},(∀r,row=some r->W1.heap.size<=r/\∃o:Obj,A.heap[r]? =some o/\o.isWalk=true)->∀r,row=some r->w.heap.size<=r/\∃o:Obj,A.heap[r]? =some o/\o.isCells=false:=
  λhr r e=>let⟨h1,o,h2,h3⟩:=hr r e;⟨by omega,o,h2,Obj.not_cells_of_walk h3⟩
 have here:∀ {A B:World} {row:Option Nat} {i:Nat} {o:Obj},A.grownBy B row->(∀r,row=some r->W1.heap.size<=r/\∃o:Obj,A.heap[r]? =some o/\o.isWalk=true)->A.heap[i]? =some o->i<W1.heap.size->B.heap[i]? =some o:=
  λhg hr hi hlt=>(hg.block _ (qW.1 hi).1 (λe=>by have:=(hr _ e.symm).1;omega)).trans hi
 have run:=hseq (w.heap.size+1)
  (λs W=>(∃T:Nat->Prop,s.2=(λj=>T j\/j=w.heap.size+1)/\I (s.1,T) W)/\W.heap[w.heap.size+1]? =some (.loop (rec .ready none))/\W.heap[w.heap.size]? =some (.deferred (some [])))
  (λ_ _=>False) (λch pre W=>Ip ch pre W/\W.heap[w.heap.size]? =some (.deferred (some []))) W1 hb1
  (λs A B row hs hg hr=>⟨hs.1.elim λT h=>Exists.intro T ⟨h.1,hI _ A B row h.2 hg (far hr)⟩,here hg hr hs.2.1 (by omega),here hg hr hs.2.2 (by omega)⟩)
  (λ_ _ _ _ hs _ _=>hs)
  (λch s A B row hs hg hr=>⟨hIp ch s A B row hs.1 hg (far hr),here hg hr hs.2 (by omega)⟩)
  (by
   rintro pre T2 W2 ⟨⟨T,hT2,hi⟩,hl,hk⟩ j hj;simp only at hT2 hi;rw[hT2] at hj;rcases hj with hj|rfl
   · exact hIT pre T W2 hi j hj
   · have:=hb0.size
     exact⟨by omega,(qW.1 hl).1⟩)
  (by
   rintro pre T2 x W ⟨⟨T,hT2,hi⟩,hl,hk⟩ hlen;simp only at hT2 hi;subst hT2;have hy:=run_yield (P:=P) (args:=encs x) hl (by rw[hrec];exact hps x);rw[hrec] at hy;refine⟨b.fn,_,assign,body,hy,?_⟩;clear hy
   -- once what stands ahead of the body is walked,the round is begun
   have begin_:∀ (Wa:World),KeepsFrom w.heap.size W Wa->I (pre,T) Wa->∃Wb,(Instr.beginRound (w.heap.size+1)).run P Wa=.ok () Wb/\I (pre,T) Wb/\M.Kept (λj=>T j\/j=w.heap.size+1) Wa Wb/\(∀x a',Ax x a' Wa->Ax x a' Wb)/\Wb.heap[w.heap.size+1]? =some (.loop {rec .ready none with state:=.busy})/\Wb.heap[w.heap.size]? =some (.deferred (some [])):=λWa hka hia=>by
    have l1:=hka.same _ _ (by omega) hl rfl;have k1:=hka.same _ _ qR hk rfl
    exact⟨_,run_beginRound l1 (by rw[hrec]),hI.putObj _ hia (by omega) l1 rfl,zbp _ _,λx a' hx=>(hAx x a').putObj (s:=()) _ hx (by omega) l1 rfl,
     World.putObj_heap_same (qW.1 l1).1,(World.putObj_heap_other (by omega)).trans k1⟩
   refine z6f trivial hf (hassign _ pre T x W _ hi ?_);intro a' Wa hkf hkp hia hax;obtain⟨Wb,hbr,hib,hkb,haxb,hlb,hdb⟩:=begin_ Wa hkf hia;refine⟨Wb,hbr,?_⟩;rcases hbody _ pre T x a' Wb (by omega) ⟨_,hlb⟩ hib (haxb _ _ hax) hlen with hgo|hno
   · refine wpIn_mono hgo ?_
     rintro e a3 W3 ⟨rfl,hk3,T',hp3,hi3,hT'⟩;have l3:=hk3.same _ _ (by omega) hlb rfl;have k3:=hk3.same _ _ qR hdb rfl;have hr:=run_endRound (P:=P) none l3;rw[hrec] at hr;have hz:W.heap.size<=Wb.heap.size:=qK hkp.size hkb.size;refine⟨_,_,hr,.inl ⟨rfl,λj=>T' j\/j=w.heap.size+1,⟨⟨T',rfl,?_⟩,?_,?_⟩,z6z (zbo hkp) (z6z hkb (z6z (zbo hp3) (zbp _ _))),?_⟩⟩
     · exact hI.putObj _ hi3 (by omega) l3 rfl
     · rw[hrec];exact World.putObj_heap_same (qW.1 l3).1
     · exact(World.putObj_heap_other (by omega)).trans k3
     · rintro j (hj|rfl)
       · rcases hT' j hj with q|q
         · exact .inl (.inl q)
         · exact .inr (by omega)
       · exact .inl (.inr rfl)
   · refine wpIn_mono hno ?_
     rintro e a3 W3 ⟨ch,rfl,hd,hk3,hp3⟩;exact⟨hd,.inr (.inr ⟨ch,rfl,hp3,hk3.same _ _ qR hdb rfl⟩)⟩)
  ⟨_,⟨⟨T0,rfl,hI1⟩,hL1,hK1⟩⟩
 have hres:(resolve a.eval (rangeCall g (w.heap.size+1)) 0).run P W1=.ok {target:=.fn (.func gf) lb,args:= #[.func (.yield (w.heap.size+1)) #[] #[]]} W1:=by
  simp only[resolve,hg];simp[go_sem]
 have hinv:(invoke (Target.fn (.func gf) lb) #[.func (.yield (w.heap.size+1)) #[] #[]]).run P W1=.ok (.enter gf (#[.func (.yield (w.heap.size+1)) #[] #[]]++lb)) W1:=(by simp[invoke,go_sem,eg]);have he:(Instr.enterLoop b.fn a.tmps ps assign body b.roundOf).run P w=.ok (w.heap.size+1,[{target:=.collected w.heap.size,args:= #[]}]) W1:=by
  rw[hro,<-hW1,hrec];exact run_enterLoop_outer _ _ _ _ _
 have henter:=stepR_rangeFunc (P:=P) (b:=b) (a:=a) (k:=k) (cs:=cs) (w:=w) he hres hinv;obtain⟨e,w₃,fr,hR,hsteps,hfn,hleave⟩:=run.2 (b.atR {a with defers:=[{target:=.collected w.heap.size,args:= #[]}]++a.defers} (.inRangeFunc (w.heap.size+1)::k)::cs) (room_wide _);have s0:StepsIn (Machine.fenced P Fence.wide) P (lone (b.atR a (.code (.rangeFunc g ps assign body)::k)) cs w) _:=.one (fenced_lone (.inl trivial) (λ_ _=>trivial) (room_wide _)) henter;rcases hR with⟨v,rfl,⟨xs,hS,T2,⟨T,_,hi⟩,hl,hk⟩|⟨pre,_,hx⟩⟩|⟨ch,pre,rfl,hSx,hp,hk⟩
 · have hend:=run_endLoop (P:=P) hl (by rw[hrec];simp)
   rw[show(rec .ready none).pending=none by rw[hrec]] at hend;refine⟨.normal,_,w₃.putObj (w.heap.size+1) (.loop {rec .ready none with state:=.exhausted,pending:=none}),hdone w.heap.size xs T _ qR hS (hI.putObj _ hi (by omega) hl rfl) ((World.putObj_heap_other (by omega)).trans hk),?_⟩;have s1:StepsIn (Machine.fenced P Fence.wide) P (lone fr (b.atR {a with defers:=[{target:=.collected w.heap.size,args:= #[]}]++a.defers} (.inRangeFunc (w.heap.size+1)::k)::cs) w₃) (lone (b.atR {a with defers:=[{target:=.collected w.heap.size,args:= #[]}]++a.defers} (.endRangeFunc (w.heap.size+1)::k)) cs w₃):=by
    refine .one (fenced_leaving (n:=0) trivial (room_wide _) hleave) ?_
    rw[<-finish_atR_inRangeFunc (w.heap.size+1) v];exact step_leave_returned hleave
   have s2:StepsIn (Machine.fenced P Fence.wide) P (lone (b.atR {a with defers:=[{target:=.collected w.heap.size,args:= #[]}]++a.defers} (.endRangeFunc (w.heap.size+1)::k)) cs w₃) (lone (b.atR {a with defers:=[{target:=.collected w.heap.size,args:= #[]}]++a.defers} k) cs (w₃.putObj (w.heap.size+1) (.loop {rec .ready none with state:=.exhausted,pending:=none}))):=
    .one (fenced_calm (n:=0) (fr:=b.atR {a with defers:=[{target:=.collected w.heap.size,args:= #[]}]++a.defers} (.endRangeFunc (w.heap.size+1)::k)) trivial (room_wide _) rfl) (stepR_endRangeFunc hend)
   exact StepsIn.trans s0 (StepsIn.trans hsteps (StepsIn.trans s1 s2))
 · exact hx.elim
 · refine⟨.panic ch,_,w₃,hpanic w.heap.size ch pre _ qR hSx hp hk,.inRangeFunc (w.heap.size+1)::k,StepsIn.trans s0 (StepsIn.trans hsteps (.one (fenced_leaving (n:=0) trivial (room_wide _) hleave) ?_))⟩
   rw[<-Frame.raise_atR];exact step_leave_panicked hleave
