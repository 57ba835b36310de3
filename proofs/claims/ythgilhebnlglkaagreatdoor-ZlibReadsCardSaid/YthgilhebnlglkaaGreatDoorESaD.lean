import Derived.Test.YthgilhebnlglkaaGreatDoorESaC
import Derived.Shelf.RegionOpen
set_option linter.all false
set_option maxHeartbeats 8000000
set_option maxRecDepth 1000000
open Go.Proofs.Tryz
namespace Go.Proofs.YthgilhebnlglkaaGreatDoor.U
open Go Go.RowKit M
attribute [local go_sem] Oper.semAt_some
def zks(D:Nat):Deferred:={target:=.collected D,args:= #[]}
def z20:World->List Nat->World
 |W,[]=>W
 |W,D::Ds=>z20 (W.putObj D (.deferred none)) Ds
theorem z3T:∀ (Ds:List Nat) (W:World) (k:Nat),k∉Ds->(z20 W Ds).heap[k]? =W.heap[k]?
 |[],W,k,_=>rfl
 |D::Ds,W,k,h=>by
  unfold z20;rw[z3T Ds _ k (λg=>h (List.mem_cons_of_mem _ g))];exact World.putObj_heap_other (λe=>h (by rw[e];exact List.mem_cons_self))
theorem z3U:∀ (Ds:List Nat) (W:World) (B:Nat),(∀D∈Ds,B<=D)->B<=W.heap.size->Below B W (z20 W Ds)
 |[],W,B,_,_=>Below.refl _ _
 |D::Ds,W,B,h,hB=>by
  unfold z20;have h1:Below B W (W.putObj D (.deferred none)):=(Below.refl B W).grown (grownBy_putObj' W D _) hB (λk e=>by cases e;exact h D List.mem_cons_self);exact h1.trans (z3U Ds _ B (λk g=>h k (List.mem_cons_of_mem _ g)) (qK hB h1.size))
theorem z2o{F:Fence}{n:Nat}{P:Program}{fn:Func}{tmps:Array Value}{R:Ending->World->Prop}:∀ (Ds:List Nat) (W:World),Ds.Nodup->(∀D∈Ds,W.heap[D]? =some (.deferred (some [])))->
 LeavesInM F n P fn tmps R [] .returning (z20 W Ds)->LeavesInM F n P fn tmps R (Ds.map zks) .returning W
 |[],W,_,_,h=>h
 |D::Ds,W,hn,ha,h=>⟨by simp,.inl ⟨D,_,rfl,run_takeDeferred (ha D List.mem_cons_self),z2o Ds _ (List.nodup_cons.1 hn).2 (λD' h'=>by
  rw[World.putObj_heap_other (λe=>(List.nodup_cons.1 hn).1 (by rw[<-e];exact h'))];exact ha D' (List.mem_cons_of_mem _ h')) h⟩⟩
theorem new_at(w:World)(o:Obj):(w.alloc o).heap[w.heap.size]? =some o:=heap_alloc_new w o
theorem old_at{w:World}{i:Nat}{x:Obj}(o:Obj)(h:w.heap[i]? =some x):(w.alloc o).heap[i]? =some x:=(Below.heap_alloc w o i (qW.1 h).1).trans h
theorem one_cell{W:World}{T:TypeId}{g:Nat}{a:Value}(h:W.heap[g]? =some (.cells #[a] T (0,0))):W.cell? ⟨g,0,none⟩=some a:=by simp[World.cell?,h]
theorem one_free{W:World}{T:TypeId}{g:Nat}{a:Value}(h:W.heap[g]? =some (.cells #[a] T (0,0))):W.frozen? ⟨g,0,none⟩=false:=by simp[World.frozen?,h]
theorem one_set{W:World}{T:TypeId}{g:Nat}{a:Value}(h:W.heap[g]? =some (.cells #[a] T (0,0)))(b:Value):(W.setCell ⟨g,0,none⟩ b).heap[g]? =some (.cells #[b] T (0,0)):=by
 rw[setCell_eq_setRow W g 0 #[a] T (0,0) b h];exact setRow_heap W g #[a] #[b] T (0,0) h
theorem zaa{W:World}{g k:Nat}(b:Value)(h:k≠g):(W.setCell ⟨g,0,none⟩ b).heap[k]? =W.heap[k]? :=Below.heap_setCell _ _ _ _ h
theorem z9H{W:World}{T:TypeId}{g:Nat}{a b:Value}(h:W.heap[g]? =some (.cells #[a,b] T (0,0))):W.cell? ⟨g,0,none⟩=some a/\W.cell? ⟨g,1,none⟩=some b:=by simp[World.cell?,h]
theorem z65{F:Fence}{n:Nat}{ops:Array Oper}{rest:List Oper}{o:Oper}{a:Act}{w:World}{Q:Exit->Act->World->Prop}(hgd:o.guard=none)(s x:Operand)
 (ho:o.op=.call {callee:=.builtin .append,args:= #[s,x],argTypes:= #[221,221]}) (B:Nat) (v:Value) (L:List Rn) (hs:a.eval s=v) (h:Owr B w v L) (b c:Nat) (y e:Nat)
 (hx:a.eval x=.slice (some ⟨b,0,none⟩) 1 c) (hc:w.cell? ⟨b,0,none⟩=some (.int .u8 (y:Int))/\w.cell? ⟨b,1,none⟩=some (.int .u8 (e:Int))) (m:Nat) (hm:L.length=m) (hL:m<=3000000) (hB:B<=w.heap.size)
 (hK:∀g cap w',Owr B w' (.slice (some ⟨g,0,none⟩) (m+1) cap) (L++[⟨y,e⟩])->w.grownBy w' v.ownBlock->(v.ownBlock=some g\/w.heap.size<=g)->wpListIn F n prog ops Q rest (a.put o.dst (.slice (some ⟨g,0,none⟩) (m+1) cap)) w'):wpListIn F n prog ops Q (o::rest) a w:=by
 refine wpListIn_plain hgd λK hK'=> ?_
 obtain⟨i,h1,h2,h3,h4⟩:=info_of zaf
 obtain⟨g,cap,w',r1,r2,r3,r4,_⟩:=run_append_lies (P:= prog) w 221 o.type B 225 i _ 2 2 underlying221 h1 h2 h3 h4 rfl (by decide) v L.length (clr L) h ⟨b,0,none⟩ 1 c (clr [⟨y,e⟩]) rfl
  (λj u hu=>by
   rw[nadd_at,Nat.zero_add]
   match j,hu with
   |0,hu=>simp[clr] at hu;subst hu;exact hc.1
   |1,hu=>simp[clr] at hu;subst hu;exact hc.2
   |j+2,hu=>simp[clr] at hu) (z6M _) (by decide) (by unfold maxLen;omega) (by omega) hB _ rfl
 unfold Oper.wpIn;refine⟨?_,?_⟩
 · simp[Oper.about,ho,resolve,Target.leads,Sem.run_pure]
 · rw[Oper.semAt_plain F _ _ (by rw[ho];intro c hc';cases hc')]
   simp[execOp,ho,resolve,invoke,builtin,hs,hx,r1,Result.andThen];subst hm;refine hK' _ _ (hK g cap w' ?_ r3 (by rcases r4 with q|q;exact .inl q;exact .inr (by omega)));unfold Owr;rw[qA,z2d];exact r2
def zi1(w2:World)(M R n₁:Nat)(L:List Rn)(pre:List Rn)(W:World):Prop:=
 (∃v,W.heap[M]? =some (.cells #[v] 221 (0,0))/\Owr (M+1) W v (L++pre)/\∀g,v.ownBlock=some g->g=R\/n₁<=g)/\Kept (Sx R M n₁) w2 W
theorem zi1.own{w2:World}{M R n₁:Nat}{L:List Rn}(h0:M<n₁):OwnFrom n₁ (zi1 w2 M R n₁ L):=λpre W W' row hs hg hr=>by
 obtain⟨⟨v,h1,h2,h3⟩,h4⟩:=hs;refine⟨⟨v,?_,h2.at λg e=> ?_,h3⟩,h4.grown hg (λr e=> .inl (.inr (.inr (hr r e).1)))⟩
 · exact(hg.block M (qW.1 h1).1 (λe=>by have:=(hr M e.symm).1;omega)).trans h1
 · refine hg.block g (h2.lt g e).2 (λe'=> ?_)
   obtain⟨_,o,ho,hc⟩:=hr g e'.symm;obtain⟨cs,hcs⟩:=h2.ty g e;rw[ho] at hcs;cases hcs;cases hc
def AxP(n₁:Nat)(f:Rn->Nat->Act)(x:Rn)(a':Act)(W:World):Prop:=
 ∃Bx,n₁<=Bx/\W.heap[Bx]? =some (.cells #[.int .u8 x.s,.int .u8 x.e] 225 (0,0))/\a'=f x Bx
theorem AxP.own{n₁:Nat}{f:Rn->Nat->Act}{x:Rn}{a':Act}:OwnFrom n₁ (λ(_:Unit) W=>AxP n₁ f x a' W):=λ_ W W' row hs hg hr=>by
 obtain⟨Bx,h1,h2,h3⟩:=hs;refine⟨Bx,h1,(hg.block Bx (qW.1 h2).1 (λe=> ?_)).trans h2,h3⟩;obtain⟨_,o,ho,hc⟩:=hr Bx e.symm;rw[h2] at ho;cases ho;cases hc
structure PkS(w:World)(M:Nat)(l:List Nat)(i ni ci:Nat)(Ai:Option Addr)(v:Value)(L:List Rn)(Ds:List Nat)(W:World):Prop where
 row:IsBys w Ai ni (l.drop i)
 cap:ni<=ci
 box:W.heap[M]? =some (.cells #[v] 221 (0,0))
 own:Owr (M+1) W v L
 told:L++pk (l.drop i)=pk l
 low:w.heap.size<=M
 bel:Below w.heap.size w W
 nd:Ds.Nodup
 mk':∀D∈Ds,M<D/\W.heap[D]? =some (.deferred (some []))
def lenOf:Value->Nat
 |.slice _ n _=>n
 |_=>0
theorem zdy(A:Option Addr)(n c:Nat)(l:List Nat)(w:World)(HT:Tab w)(H:IsBys w A n l)(hc:n<=c)(hn:n<=2000)(hok:∀i,i<n->l.getD i 0<=15):
 Calls prog 276 #[.slice A n c] w (RnP w (pk l)):=by
 have HC:=qH (z5R A n c l w false ⟨λq=>(by cases q),λ⟨j,h1,h2⟩=>absurd (hok j h1) (by omega)⟩ H hn);unfold zhV at HC;obtain⟨HH,HTab,HOk,HCp⟩:=qh4 H HT hok hc;clear H HT hok hc;unfold RnP;refine(callsIn_wide (n:=5)).1 ?_
 refine callsIn_of_wp_marks func276 rfl trivial ?_ rfl;simp only[ntmps276,List.size_toArray,qC,List.length_nil,Nat.reduceAdd,Nat.reduceSub,Array.replicate_succ,Array.replicate_zero,List.push_toArray,List.append_toArray,List.nil_append,List.cons_append]
 gi_wp2_with (refine⟨trivial,?_⟩;gi_at_call 305;(with_reducible refine(callsIn_wide.2 HC.o).mono ?_);rintro e w1 ⟨rfl,b1⟩;have B1:=qH b1;clear b1)
 have hM:w.heap.size<=w1.heap.size:=B1.o.size
 refine wpIn_loop (λa' W'=> ∃ (i ni ci:Nat) (Ai:Option Addr) (v:Value) (L:List Rn) (Ds:List Nat) (u6 u11 u12 u13 u14 u15 u16 u17 u18 u19 u20 u26 u27 u28:Value),PkS w w1.heap.size l i ni ci Ai v L Ds W'/\
  a'={tmps:= #[.slice A n c,undef,.slice none 0 0,.int .i64 0,.pointer (some ⟨w1.heap.size,0,none⟩),.slice Ai ni ci,u6,undef,.slice A n c,.bool false,.slice A n c,u11,u12,u13,u14,u15,u16,u17,u18,u19,u20,undef,undef,undef,undef,undef,u26,u27,u28,undef],defers:=Ds.map zks})
  (λa' _=>lenOf (a'.tmps.getD 5 undef)) ?start ?round
 case start=>
  have hb:Below w.heap.size w (w1.alloc (.cells #[.slice none 0 0] 221)):=B1.o.alloc hM _;exact⟨0,n,c,A,.slice none 0 0,[],[],_,_,_,_,_,_,_,_,_,_,_,_,_,_,⟨by rw[List.drop_zero];exact HH.o,HCp.o,new_at _ _,Owr.nil _ _,by rw[List.drop_zero];rfl,hM,hb,List.nodup_nil,λD hD=>absurd hD (by simp)⟩,rfl⟩
 case round=>
  rintro _ W ⟨i,ni,ci,Ai,v,L,Ds,u6,u11,u12,u13,u14,u15,u16,u17,u18,u19,u20,u26,u27,u28,hS,rfl⟩;have HS:=qH hS;generalize hMe:w1.heap.size=M at hS HS ⊢;by_cases hlt:0<ni
  · have hleng:=hS.row.leng
    obtain⟨x,l',hxl⟩:∃x l',l.drop i=x::l':=by
     cases e:l.drop i with
     |nil=>rw[e] at hleng;simp at hleng;omega
     |cons x l'=>exact⟨x,l',rfl⟩
    have hrow:=hS.row.below hS.bel;rw[hxl] at hrow hleng;have hni:ni<=2000:=by
     have:=congrArg List.length hxl;rw[List.length_drop,HH.o.leng,hleng] at this;omega
    have hx15:x<=15:=by
     have h1:i<l.length:=by
      rcases Nat.lt_or_ge i l.length with g|g
      · exact g
      · rw[List.drop_of_length_le g] at hxl;cases hxl
     have h2:=HOk.o i (by rw[<-HH.o.leng];exact h1);rw[List.drop_eq_getElem_cons h1] at hxl;injection hxl with h3 h4
     rw[List.getD,qE h1] at h2;simp only[Option.getD_some] at h2;rw[h3] at h2;exact h2
    have hru:=zd6 x l';rw[qC] at hleng;obtain⟨t,ht⟩:∃t,ru x l'+1=t:=⟨_,rfl⟩
    have hAl:=alike_any Ai ni ci l' x W hrow hni;rw[ht] at hAl;have HAl:=qH hAl;have htn:t<=ni:=(by omega);have ht1:1<=t:=by omega
    have HTold:=qH (show(L++one x t)++pk (l.drop (i+t))=pk l by
     rw[<-hS.told,hxl,z31,ht,qD,<-List.drop_drop,hxl,<-ht,List.drop_succ_cons])
    have hLl:L.length+(one x t).length<=2000:=by
     have h1:=congrArg List.length HTold.o;have h2:=z7w l;rw[qA,qA] at h1;rw[HH.o.leng] at h2;omega
    have HDrop:=qH (show ∀a,(t<ni->∃b o,Ai=some ⟨b,o,none⟩/\a=some ⟨b,o+t,none⟩)->IsBys w a (ni - t) (l.drop (i+t)) from λa ha=>by
     rw[<-List.drop_drop];have h0:=hS.row;obtain⟨b,o,rfl,hbb,_⟩:=h0.at hlt;exact h0.suf htn a (λq=>by
      obtain⟨b',o',e1,e2⟩:=ha q;simp only[Option.some.injEq,Addr.mk.injEq,and_true] at e1;rw[e2,e1.1,e1.2]))
    obtain⟨b,o,rfl,hbb,hcc⟩:=hrow.at hlt;have c0:W.cell? ⟨b,o,none⟩=some (.int .u8 (x:Nat)):=(by have:=hcc 0 hlt;simpa using this);have htl:ru x l'+1=t:=ht;clear hS hrow hcc hAl hru hxl hleng htl ht
    gi_wp2_with (refine⟨trivial,?_⟩;first
     |(gi_at_call 307;(with_reducible refine(callsIn_wide.2 HAl.o).mono ?_);rintro e w3 ⟨rfl,b3⟩;have c3:=(b3.cell (p:=⟨b,o,none⟩) hbb).trans c0;have B3:=qH b3;clear b3)
     |(gi_at_call 308;(with_reducible refine(callsIn_wide.2 (told_any _ _ _)).mono ?_);rintro e w' ⟨rfl,rfl⟩))
    have hW3:=B3.o.size;have hz2:((w3.alloc (.cells #[.int .u8 x] 5)).alloc (.cells #[.int .i64 t] 3)).heap.size=w3.heap.size+2:=(by simp);have hb2:Below W.heap.size W ((w3.alloc (.cells #[.int .u8 x] 5)).alloc (.cells #[.int .i64 t] 3)):=(B3.o.alloc hW3 _).alloc (by simp;omega) _;have gv:((w3.alloc (.cells #[.int .u8 x] 5)).alloc (.cells #[.int .i64 t] 3)).heap[w3.heap.size]? =some (.cells #[.int .u8 x] 5 (0,0)):=old_at _ (new_at _ _);have gt:((w3.alloc (.cells #[.int .u8 x] 5)).alloc (.cells #[.int .i64 t] 3)).heap[w3.heap.size+1]? =some (.cells #[.int .i64 t] 3 (0,0)):=by
     have:=new_at (w3.alloc (.cells #[.int .u8 x] 5)) (.cells #[.int .i64 t] 3);rw[World.size_alloc] at this;exact this
    generalize hw2:(w3.alloc (.cells #[.int .u8 x] 5)).alloc (.cells #[.int .i64 t] 3)=w2 at hz2 hb2 gv gt ⊢;clear hw2;have hMW:M<W.heap.size:=(qW.1 HS.o.box).1;have hlow:=HS.o.low;have htab:=HTab.o.below (HS.o.bel.trans (hb2.mono HS.o.bel.size)) qR;have htl:=HTab.o.lt;obtain⟨R,hR⟩:∃R,v.ownBlock.getD M=R:=⟨_,rfl⟩
    have hR1:∀g,v.ownBlock=some g->g=R:=λg e=>by rw[<-hR,e];rfl
    have hR2:M<=R/\R<W.heap.size/\(R=M\/v.ownBlock=some R):=by
     cases e:v.ownBlock with
     |none=>rw[e] at hR;simp at hR;omega
     |some g=>rw[e] at hR;simp at hR;have:=HS.o.own.lt g e;subst hR;exact⟨by omega,by omega,.inr rfl⟩
    have g2:w2.heap[M]? =some (.cells #[v] 221 (0,0)):=(hb2.block M hMW).trans HS.o.box;have o2:Owr (M+1) w2 v L:=HS.o.own.below hb2;obtain⟨HG2,HO2,HR1,HB2⟩:=qh4 g2 o2 hR1 hb2;have hRM:M<=R:=hR2.1;have hRW:R<W.heap.size:=hR2.2.1;have HR2:=qH hR2.2.2;have hgM: 4 <M:=(by omega);clear hR hR1 hR2 hb2 htl g2 o2 c0 c3
    refine wpIn_rangeFunc_ownH rfl (by omega) (gf:= 327) (lb:= #[.pointer (some ⟨w3.heap.size+1,0,none⟩),.pointer (some ⟨w3.heap.size,0,none⟩)]) rfl trivial (enters_of func327 (by kernel_rfl) rfl)
     (z8w 4 (w3.heap.size+1) w3.heap.size R M w2.heap.size x t (by omega) hx15 ht1 (by omega) (by omega) (by omega) (by omega) (by omega) (by omega) (by omega) (by omega) (by omega) (by omega) w2 qR (one_cell gt) (one_cell gv) htab)
     (λh k=>keptSx_t h k) (λW l o o' hl h _ _=>keptSx_b W l o o' hl h) (Below.refl _ _) (λ_=>rfl)
     (zi1 w2 M R w2.heap.size L) (λ_ _ _=>False) (zi1.own (by omega)) (λ_ _ _ _ _ hs _ _=>hs)
     ⟨⟨v,HG2.o,by rw[List.append_nil];exact HO2.o,λg e=> .inl (HR1.o g e)⟩,Kept.refl _ _⟩
     (AxP w2.heap.size (λy Bx=> {tmps:= #[.slice A n c,undef,.slice none 0 0,.int .i64 0,.pointer (some ⟨M,0,none⟩),.slice (some ⟨b,o,none⟩) ni ci,.int .i64 t,.pointer (some ⟨Bx,0,none⟩),.slice A n c,.bool false,.slice A n c,
      .slice (some ⟨b,o,none⟩) ni ci,.int .i64 ni,.bool true,.slice (some ⟨b,o,none⟩) ni ci,.int .i64 t,.slice (some ⟨b,o,none⟩) ni ci,.pointer (some ⟨b,o,none⟩),.int .u8 x,.int .i64 t,
      .func (.func 327) #[] #[.pointer (some ⟨w3.heap.size+1,0,none⟩),.pointer (some ⟨w3.heap.size,0,none⟩)],.agg #[.int .u8 y.s,.int .u8 y.e],undef,undef,undef,undef,u26,u27,u28,undef],defers:=[]}))
     (λx a'=>AxP.own) ?assign ?body ?done ?stop
    case assign=>
     rintro l2 pre y Wa K hmid hK;have HM:=qH hmid;have HK:=qH (λ(a':Act) (W':World) (h1:KeepsFrom w2.heap.size Wa W') (h2:Kept (Sx R M w2.heap.size) Wa W') (h3:zi1 w2 M R w2.heap.size L pre W') h4=>hK a' W' h1 h2 h3 h4);clear hK hmid;unfold zjE;gi_wp2;exact HK.o _ _ ((KeepsOthers.alloc _ _).from _) ((Kept.refl _ _).alloc _) ((zi1.own (by omega)).alloc _ HM.o) ⟨Wa.heap.size,HM.o.2.size,new_at _ _,rfl⟩
    case body=>
     rintro l2 pre y a' Wb hl2 ⟨r,hr⟩ ⟨⟨v',m1,m2,m3⟩,mk⟩ ⟨Bx,hBx,hxc,rfl⟩ hlt2;obtain⟨ys,ye⟩:=y;simp only at hxc ⊢;obtain⟨x0,x1⟩:=z9H hxc;have s0:=one_cell m1;have hMb:=(qW.1 m1).1;obtain⟨H1,H2,H3,HKb⟩:=qh4 m1 m2 m3 mk;have hnb:=mk.size;obtain⟨m,hm⟩:∃m,(L++pre).length=m:=⟨_,rfl⟩
     have hpl:m<=4000:=by rw[qA] at hm;omega
     have HT2:=qH (λ(w:World) (h:Owr (M+1) w v' (L++pre)) (j:Nat) (ob:Obj) (e:v'.ownBlock=some j) (ho:w.heap[j]? =some ob)=>show ob.isCells=true from by
      obtain⟨cs,hcs⟩:=h.ty j e;rw[ho] at hcs;cases hcs;rfl)
     have HMm:=qH hm;clear m1 m2 m3 mk hxc hlt2 hr gv gt htab hm
     gi_wp2_with (gi_at_builtin;refine z65 rfl (.tmp 22) (.tmp 24) rfl (M+1) v' (L++pre) rfl (H2.o.alloc _) Wb.heap.size 1 ys ye rfl (by simp) m HMm.o (by omega) (by simp;omega) ?_;intro gg cap w4 o4 g4 b4;have q4:=(g4.block M (by simp;omega) (λe=>by have:=(H2.o.lt M e.symm).1;omega)).trans (old_at _ H1.o);have q5:=one_cell q4;have q6:=one_free q4;obtain⟨O4,G4,B4,Q4⟩:=qh4 o4 g4 b4 q4;clear o4 g4 b4 q4)
     all_goals gi_wp2
     have hkp:Kept (Sx R M w2.heap.size) Wb (w4.setCell ⟨M,0,none⟩ (.slice (some ⟨gg,0,none⟩) (m+1) cap)):=(((Kept.refl _ Wb).alloc _).grown G4.o (λk e=>by
      rcases H3.o k e with q|q
      · exact .inl (.inl q)
      · exact .inl (.inr (.inr q)))).setCell ⟨M,0,none⟩ (.inl (.inr (.inl rfl))) _
     exact⟨(((KeepsOthers.alloc _ _).trans (KeepsOthers.of_grownBy G4.o (λj ob e ho=>HT2.o _ (H2.o.alloc _) j ob e ho))).trans (KeepsOthers.setCell _ _ _)).from _,hkp,
      ⟨_,one_set Q4.o _,by rw[<-qD];exact O4.o.at (λg e=>zaa _ (by have:=(O4.o.lt g e).1;omega)),λg e=>by
       obtain rfl:gg=g:=by simpa [Value.ownBlock] using e
       rcases B4.o with q|q
       · exact H3.o gg q
       · right;simp at q;omega⟩,keptSx_t HKb.o hkp⟩
    case done=>
     rintro D ys W4 hD rfl ⟨⟨v',m1,m2,m3⟩,mk⟩ hK;obtain⟨H1,H2,HKD⟩:=qh3 m1 m2 hK;have HPk:=qH (show ∀a c',(t<ni->a=some ⟨b,o+t,none⟩)->ni - t<=c'->PkS w M l (i+t) (ni - t) c' a v' (L++one x t) (D::Ds) W4 from λa c' ha hc'=>by
      have hDs:∀D'∈Ds,D'<W.heap.size:=λD' h=>(qW.1 (HS.o.mk' D' h).2).1
      refine⟨HDrop.o a (λq=>⟨b,o,rfl,ha q⟩),hc',m1,m2,HTold.o,hlow,?_,List.nodup_cons.2 ⟨λh=>by have:=hDs D h;omega,HS.o.nd⟩,λD' h=> ?_⟩
      · exact(HS.o.bel.trans (HB2.o.mono HS.o.bel.size)).trans (mk.below (by omega) (λj hj=>by rcases hj with hj|hj|hj<;>omega))
      · rcases List.mem_cons.1 h with rfl|h
        · exact⟨by omega,hK⟩
        · obtain⟨e1,e2⟩:=HS.o.mk' D' h
          have e3:=hDs D' h;refine⟨e1,(mk.block D' (by omega) (sx_no (by omega) (λq=> ?_) (by omega))).trans ((HB2.o.block D' e3).trans e2)⟩;rcases HR2.o with g|g
          · omega
          · obtain⟨cs,hcs⟩:=HS.o.own.ty R g
            rw[<-q,e2] at hcs;cases hcs)
     clear m1 m2 m3 mk hK gv gt htab;have hti:(t:Int)<=(ni:Int):=(by omega);have hcap:=HS.o.cap;gi_wp2
     · rename_i hct
       exact⟨⟨i+t,_,_,_,v',L++one x t,D::Ds,HPk.o _ _ (λq=>absurd q (by omega)) (by omega),⟨rfl,rfl,rfl⟩,rfl⟩,by simp only[lenOf];omega⟩
     · exact⟨⟨i+t,_,_,_,v',L++one x t,D::Ds,HPk.o _ _ (λ_=>rfl) (by omega),⟨rfl,rfl,rfl⟩,rfl⟩,by simp only[lenOf];omega⟩
    case stop=>
     rintro D c pre W _ _ h _;exact h.elim
  · obtain rfl:ni=0:=by omega
    have s0:=one_cell hS.box;have hdr:l.drop i=[]:=List.eq_nil_of_length_eq_zero hS.row.leng;have htd:=hS.told;rw[hdr,z5w,List.append_nil] at htd;have hres:∀g,v.ownBlock=some g->g∉Ds:=λg e h=>by
     obtain⟨cs,hcs⟩:=HS.o.own.ty g e;rw[(HS.o.mk' g h).2] at hcs;cases hcs
    obtain⟨HR,HTd⟩:=qh2 hres htd;clear hS hdr hlt hres htd;gi_wp2;refine z2o Ds W HS.o.nd (λD h=>(HS.o.mk' D h).2) ?_
    refine⟨.tuple #[v,.int .i64 0],by simp[results,results276,go_sem],v,rfl,?_,?_⟩
    · rw[<-HTd.o]
      exact(HS.o.own.weak (by have:=HS.o.low;omega)).at (λg e=>z3T Ds W g (HR.o g e))
    · exact HS.o.bel.trans (z3U Ds W _ (λD h=>by have:=(HS.o.mk' D h).1;have:=HS.o.low;omega) HS.o.bel.size)
