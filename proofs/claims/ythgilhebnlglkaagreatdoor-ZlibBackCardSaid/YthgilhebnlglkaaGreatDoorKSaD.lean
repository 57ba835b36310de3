import Derived.Test.YthgilhebnlglkaaGreatDoorKSaC
import Derived.Shelf.RegionOpen
set_option linter.all false
set_option maxHeartbeats 0
set_option maxRecDepth 1000000
open Go.Proofs.Tryz
namespace Go.Proofs.YthgilhebnlglkaaGreatDoor
namespace U
open Go Go.RowKit M
attribute [local go_sem] Oper.semAt_some
def LH(D:Nat):Deferred:={target:=.collected D,args:= #[]}
def dL:World->List Nat->World
 |W,[]=>W
 |W,D::Ds=>dL (W.putObj D (.deferred none)) Ds
theorem gT:∀ (a:List Nat) (W:World) (k:Nat),k∉a->(dL W a).heap[k]? =W.heap[k]?
 |[],W,k,_=>rfl
 |D::a,W,k,h=>by
  unfold dL;rw[gT a _ k (λg=>h (AK _ g))];exact World.putObj_heap_other (λe=>h (by rw[e];exact Aq))
theorem gU:∀ (a:List Nat) (W:World) (B:Nat),(∀D∈a,B<=D)->B<=W.heap.size->Below B W (dL W a)
 |[],W,B,_,_=>Below.refl _ _
 |D::a,W,B,h,hB=>by
  unfold dL;have b:Below B W (W.putObj D (.deferred none)):=(Below.refl B W).grown (grownBy_putObj' W D _) hB (λk e=>by cases e;exact h D Aq);exact b.trans (gU a _ B (λk g=>h k (AK _ g)) (qK hB b.size))
theorem ey{F:Fence}{n:Nat}{P:Program}{fn:Func}{tmps:Array Value}{R:Ending->World->Prop}:∀ (a:List Nat) (W:World),a.Nodup->(∀D∈a,W.heap[D]? =some (.deferred (some [])))->
 LeavesInM F n P fn tmps R [] .returning (dL W a)->LeavesInM F n P fn tmps R (a.map LH) .returning W
 |[],W,_,_,h=>h
 |D::a,W,hn,ha,h=>⟨by simp,.inl ⟨D,_,rfl,run_takeDeferred (ha D Aq),ey a _ (List.nodup_cons.1 hn).2 (λc b=>by
  rw[World.putObj_heap_other (λe=>(List.nodup_cons.1 hn).1 (by rw[<-e];exact b))];exact ha c (AK _ b)) h⟩⟩
theorem new_at(w:World)(o:Obj):(w.alloc o).heap[w.heap.size]? =some o:=heap_alloc_new w o
theorem old_at{w:World}{i:Nat}{x:Obj}(o:Obj)(h:w.heap[i]? =some x):(w.alloc o).heap[i]? =some x:=(Below.heap_alloc w o i (qW.1 h).1).trans h
theorem one_cell{W:World}{T:TypeId}{g:Nat}{a:Value}(h:W.heap[g]? =some (.cells #[a] T (0,0))):W.cell? ⟨g,0,none⟩=some a:=by simp[World.cell?,h]
theorem one_free{W:World}{T:TypeId}{g:Nat}{a:Value}(h:W.heap[g]? =some (.cells #[a] T (0,0))):W.frozen? ⟨g,0,none⟩=false:=by simp[World.frozen?,h]
theorem one_set{W:World}{T:TypeId}{g:Nat}{a:Value}(h:W.heap[g]? =some (.cells #[a] T (0,0)))(b:Value):(W.setCell ⟨g,0,none⟩ b).heap[g]? =some (.cells #[b] T (0,0)):=by
 rw[setCell_eq_setRow W g 0 #[a] T (0,0) b h];exact setRow_heap W g #[a] #[b] T (0,0) h
theorem sU{W:World}{g k:Nat}(b:Value)(h:k≠g):(W.setCell ⟨g,0,none⟩ b).heap[k]? =W.heap[k]? :=Below.heap_setCell _ _ _ _ h
theorem si{W:World}{T:TypeId}{g:Nat}{a b:Value}(h:W.heap[g]? =some (.cells #[a,b] T (0,0))):W.cell? ⟨g,0,none⟩=some a/\W.cell? ⟨g,1,none⟩=some b:=by simp[World.cell?,h]
theorem lE{F:Fence}{n:Nat}{l:Array Oper}{k:List Oper}{o:Oper}{a:Act}{w:World}{Q:Exit->Act->World->Prop}(z:o.guard=none)(s x:Operand)
 (p:o.op=.call {callee:=.builtin .append,args:= #[s,x],argTypes:= #[221,221]}) (B:Nat) (v:Value) (L:List Rn) (hs:a.eval s=v) (h:Owr B w v L) (b c:Nat) (y e:Nat)
 (D:a.eval x=.slice (some ⟨b,0,none⟩) 1 c) (C:w.cell? ⟨b,0,none⟩=some (.int .u8 (y:Int))/\w.cell? ⟨b,1,none⟩=some (.int .u8 (e:Int))) (m:Nat) (G:L.length=m) (U:m<=3000000) (N:B<=w.heap.size)
 (E:∀g d w',Owr B w' (.slice (some ⟨g,0,none⟩) (m+1) d) (L++[⟨y,e⟩])->w.grownBy w' v.ownBlock->(v.ownBlock=some g\/w.heap.size<=g)->wpListIn F n prog l Q k (a.put o.dst (.slice (some ⟨g,0,none⟩) (m+1) d)) w'):wpListIn F n prog l Q (o::k) a w:=by
 refine wpListIn_plain z λK r=> ?_
 obtain⟨i,H,J,O,R⟩:=info_of sZ
 obtain⟨g,d,w',T,I,S,M,_⟩:=run_append_lies (P:= prog) w 221 o.type B 225 i _ 2 2 underlying221 H J O R rfl (by decide) v L.length (clr L) h ⟨b,0,none⟩ 1 c (clr [⟨y,e⟩]) rfl
  (λj u f=>by
   rw[nadd_at,Aa]
   match j,f with
   |0,f=>simp[clr] at f;subst f;exact C.1
   |1,f=>simp[clr] at f;subst f;exact C.2
   |j+2,f=>simp[clr] at f) (mP _) (by decide) (by unfold maxLen;omega) (by omega) N _ rfl
 unfold Oper.wpIn;refine⟨?_,?_⟩
 · simp[Oper.about,p,resolve,Target.leads,Sem.run_pure]
 · rw[Oper.semAt_plain F _ _ (by rw[p];intro c A;cases A)]
   simp[execOp,p,resolve,invoke,builtin,hs,D,T,Result.andThen];subst G;refine r _ _ (E g d w' ?_ S (by rcases M with q|q;exact .inl q;exact .inr (by omega)));unfold Owr;rw[qA,dW];exact I
def IA(w2:World)(M R n₁:Nat)(L:List Rn)(pre:List Rn)(W:World):Prop:=
 (∃v,W.heap[M]? =some (.cells #[v] 221 (0,0))/\Owr (M+1) W v (L++pre)/\∀g,v.ownBlock=some g->g=R\/n₁<=g)/\Kept (Sx R M n₁) w2 W
theorem IA.own{l:World}{M R n₁:Nat}{L:List Rn}(n:M<n₁):OwnFrom n₁ (IA l M R n₁ L):=λh W p row hs b c=>by
 obtain⟨⟨v,f,d,i⟩,m⟩:=hs;refine⟨⟨v,?_,d.at λg e=> ?_,i⟩,m.grown b (λr e=> .inl (.inr (.inr (c r e).1)))⟩
 · exact(b.block M (qW.1 f).1 (λe=>by have:=(c M e.symm).1;omega)).trans f
 · refine b.block g (d.lt g e).2 (λe'=> ?_)
   obtain⟨_,o,j,k⟩:=c g e'.symm;obtain⟨cs,a⟩:=d.ty g e;rw[j] at a;cases a;cases k
def AxP(n₁:Nat)(f:Rn->Nat->Act)(x:Rn)(a':Act)(W:World):Prop:=
 ∃Bx,n₁<=Bx/\W.heap[Bx]? =some (.cells #[.int .u8 x.s,.int .u8 x.e] 225 (0,0))/\a'=f x Bx
theorem AxP.own{n₁:Nat}{f:Rn->Nat->Act}{x:Rn}{a':Act}:OwnFrom n₁ (λ(_:Unit) W=>AxP n₁ f x a' W):=λ_ W j row hs d i=>by
 obtain⟨Bx,c,a,g⟩:=hs;refine⟨Bx,c,(d.block Bx (qW.1 a).1 (λe=> ?_)).trans a,g⟩;obtain⟨_,o,b,h⟩:=i Bx e.symm;rw[a] at b;cases b;cases h
structure PkS(w:World)(M:Nat)(l:List Nat)(i ni ci:Nat)(Ai:Option Addr)(v:Value)(L:List Rn)(Ds:List Nat)(W:World):Prop where
 row:IsBys w Ai ni (l.drop i)
 cap:ni<=ci
 box:W.heap[M]? =some (.cells #[v] 221 (0,0))
 own:Owr (M+1) W v L
 told:L++pk (l.drop i)=pk l
 low:w.heap.size<=M
 bel:Below w.heap.size w W
 nd:Ds.Nodup
 mk':∀D∈Ds,M<D/\W.heap[D]? =some (.deferred (some []))
def lenOf:Value->Nat
 |.slice _ n _=>n
 |_=>0
theorem xW(A:Option Addr)(n c:Nat)(l:List Nat)(w:World)(HT:Tab w)(H:IsBys w A n l)(hc:n<=c)(hn:n<=2000)(a5:∀i,i<n->l.getD i 0<=15):
 Calls prog 276 #[.slice A n c] w (RnP w (pk l)):=by
 have HC:=qH (kT A n c l w false ⟨λq=>(by cases q),λ⟨j,P,T⟩=>absurd (a5 j P) (by omega)⟩ H hn);unfold Io at HC;obtain⟨HH,Z,aE,aC⟩:=qh4 H HT a5 hc;clear H HT a5 hc;unfold RnP;refine(callsIn_wide (n:=5)).1 ?_
 refine callsIn_of_wp_marks func276 rfl trivial ?_ rfl;simp only[ntmps276,AE,qC,AB,Nat.reduceAdd,Nat.reduceSub,Be,Bf,Bg,Bh,Ap,Ac]
 gi_wp2_with (refine⟨trivial,?_⟩;gi_at_call 305;(with_reducible refine(callsIn_wide.2 HC.o).mono ?_);rintro e w1 ⟨rfl,b1⟩;have B1:=qH b1;clear b1)
 have hM:w.heap.size<=w1.heap.size:=B1.o.size
 refine wpIn_loop (λa' W'=> ∃ (i ni Y:Nat) (Ai:Option Addr) (v:Value) (L:List Rn) (Ds:List Nat) (u6 aa ap am ag ar ao an ak af ac a7 a3 a2:Value),PkS w w1.heap.size l i ni Y Ai v L Ds W'/\
  a'={tmps:= #[.slice A n c,undef,.slice none 0 0,.int .i64 0,.pointer (some ⟨w1.heap.size,0,none⟩),.slice Ai ni Y,u6,undef,.slice A n c,.bool false,.slice A n c,aa,ap,am,ag,ar,ao,an,ak,af,ac,undef,undef,undef,undef,undef,a7,a3,a2,undef],defers:=Ds.map LH})
  (λa' _=>lenOf (a'.tmps.getD 5 undef)) ?start ?round
 case start=>
  have hb:Below w.heap.size w (w1.alloc (.cells #[.slice none 0 0] 221)):=B1.o.alloc hM _;exact⟨0,n,c,A,.slice none 0 0,[],[],_,_,_,_,_,_,_,_,_,_,_,_,_,_,⟨by rw[BZ];exact HH.o,aC.o,new_at _ _,Owr.nil _ _,by rw[BZ];rfl,hM,hb,List.nodup_nil,λD hD=>absurd hD (by simp)⟩,rfl⟩
 case round=>
  rintro _ W ⟨i,ni,Y,Ai,v,L,Ds,u6,aa,ap,am,ag,ar,ao,an,ak,af,ac,a7,a3,a2,I,rfl⟩;have u:=qH I;generalize aW:w1.heap.size=M at I u ⊢;by_cases S:0<ni
  · have d:=I.row.leng
    obtain⟨x,l',z⟩:∃x l',l.drop i=x::l':=by
     cases e:l.drop i with
     |nil=>rw[e] at d;simp at d;omega
     |cons x l'=>exact⟨x,l',rfl⟩
    have E:=I.row.below I.bel;rw[z] at E d;have aw:ni<=2000:=by
     have:=congrArg List.length z;rw[AF,HH.o.leng,d] at this;omega
    have ad:x<=15:=by
     have P:i<l.length:=by
      rcases By i l.length with g|g
      · exact g
      · rw[Dh g] at z;cases z
     have T:=aE.o i (by rw[<-HH.o.leng];exact P);rw[Co P] at z;injection z with h3 h4
     rw[List.getD,qE P] at T;simp only[DA] at T;rw[h3] at T;exact T
    have aL:=xt x l';rw[qC] at d;obtain⟨t,ht⟩:∃t,ru x l'+1=t:=⟨_,rfl⟩
    have a8:=alike_any Ai ni Y l' x W E aw;rw[ht] at a8;have az:=qH a8;have aB:t<=ni:=(by omega);have av:1<=t:=by omega
    have N:=qH (show(L++one x t)++pk (l.drop (i+t))=pk l by
     rw[<-I.told,z,aZ,ht,qD,<-List.drop_drop,z,<-ht,Ck])
    have aT:L.length+(one x t).length<=2000:=by
     have P:=congrArg List.length N.o;have T:=og l;rw[qA,qA] at P;rw[HH.o.leng] at T;omega
    have a0:=qH (show ∀a,(t<ni->∃b o,Ai=some ⟨b,o,none⟩/\a=some ⟨b,o+t,none⟩)->IsBys w a (ni - t) (l.drop (i+t)) from λa ha=>by
     rw[<-List.drop_drop];have h0:=I.row;obtain⟨b,o,rfl,al,_⟩:=h0.at S;exact h0.suf aB a (λq=>by
      obtain⟨b',o',e1,e2⟩:=ha q;simp only[Option.some.injEq,Addr.mk.injEq,AU] at e1;rw[e2,e1.1,e1.2]))
    obtain⟨b,o,rfl,al,ab⟩:=E.at S;have c0:W.cell? ⟨b,o,none⟩=some (.int .u8 (x:Nat)):=(by have:=ab 0 S;simpa using this);have a1:ru x l'+1=t:=ht;clear I E ab a8 aL z d a1 ht
    gi_wp2_with (refine⟨trivial,?_⟩;first
     |(gi_at_call 307;(with_reducible refine(callsIn_wide.2 az.o).mono ?_);rintro e C ⟨rfl,b3⟩;have c3:=(b3.cell (p:=⟨b,o,none⟩) al).trans c0;have B3:=qH b3;clear b3)
     |(gi_at_call 308;(with_reducible refine(callsIn_wide.2 (told_any _ _ _)).mono ?_);rintro e w' ⟨rfl,rfl⟩))
    have aO:=B3.o.size;have aI:((C.alloc (.cells #[.int .u8 x] 5)).alloc (.cells #[.int .i64 t] 3)).heap.size=C.heap.size+2:=(by simp);have F:Below W.heap.size W ((C.alloc (.cells #[.int .u8 x] 5)).alloc (.cells #[.int .i64 t] 3)):=(B3.o.alloc aO _).alloc (by simp;omega) _;have gv:((C.alloc (.cells #[.int .u8 x] 5)).alloc (.cells #[.int .i64 t] 3)).heap[C.heap.size]? =some (.cells #[.int .u8 x] 5 (0,0)):=old_at _ (new_at _ _);have gt:((C.alloc (.cells #[.int .u8 x] 5)).alloc (.cells #[.int .i64 t] 3)).heap[C.heap.size+1]? =some (.cells #[.int .i64 t] 3 (0,0)):=by
     have:=new_at (C.alloc (.cells #[.int .u8 x] 5)) (.cells #[.int .i64 t] 3);rw[World.size_alloc] at this;exact this
    generalize aM:(C.alloc (.cells #[.int .u8 x] 5)).alloc (.cells #[.int .i64 t] 3)=J at aI F gv gt ⊢;clear aM;have aF:M<W.heap.size:=(qW.1 u.o.box).1;have ah:=u.o.low;have O:=Z.o.below (u.o.bel.trans (F.mono u.o.bel.size)) qR;have a1:=Z.o.lt;obtain⟨R,hR⟩:∃R,v.ownBlock.getD M=R:=⟨_,rfl⟩
    have au:∀g,v.ownBlock=some g->g=R:=λg e=>by rw[<-hR,e];rfl
    have Q:M<=R/\R<W.heap.size/\(R=M\/v.ownBlock=some R):=by
     cases e:v.ownBlock with
     |none=>rw[e] at hR;simp at hR;omega
     |some g=>rw[e] at hR;simp at hR;have:=u.o.own.lt g e;subst hR;exact⟨by omega,by omega,.inr rfl⟩
    have g2:J.heap[M]? =some (.cells #[v] 221 (0,0)):=(F.block M aF).trans u.o.box;have o2:Owr (M+1) J v L:=u.o.own.below F;obtain⟨aN,ax,aJ,ae⟩:=qh4 g2 o2 au F;have aU:M<=R:=Q.1;have aV:R<W.heap.size:=Q.2.1;have aG:=qH Q.2.2;have b2: 4 <M:=(by omega);clear hR au Q F a1 g2 o2 c0 c3
    refine wpIn_rangeFunc_ownH rfl (by omega) (gf:= 327) (lb:= #[.pointer (some ⟨C.heap.size+1,0,none⟩),.pointer (some ⟨C.heap.size,0,none⟩)]) rfl trivial (enters_of func327 (by kernel_rfl) rfl)
     (pX 4 (C.heap.size+1) C.heap.size R M J.heap.size x t (by omega) ad av (by omega) (by omega) (by omega) (by omega) (by omega) (by omega) (by omega) (by omega) (by omega) (by omega) J qR (one_cell gt) (one_cell gv) O)
     (λh k=>keptSx_t h k) (λW l o o' hl h _ _=>keptSx_b W l o o' hl h) (Below.refl _ _) (λ_=>rfl)
     (IA J M R J.heap.size L) (λ_ _ _=>False) (IA.own (by omega)) (λ_ _ _ _ _ hs _ _=>hs)
     ⟨⟨v,aN.o,by rw[Az];exact ax.o,λg e=> .inl (aJ.o g e)⟩,Kept.refl _ _⟩
     (AxP J.heap.size (λy Bx=> {tmps:= #[.slice A n c,undef,.slice none 0 0,.int .i64 0,.pointer (some ⟨M,0,none⟩),.slice (some ⟨b,o,none⟩) ni Y,.int .i64 t,.pointer (some ⟨Bx,0,none⟩),.slice A n c,.bool false,.slice A n c,
      .slice (some ⟨b,o,none⟩) ni Y,.int .i64 ni,.bool true,.slice (some ⟨b,o,none⟩) ni Y,.int .i64 t,.slice (some ⟨b,o,none⟩) ni Y,.pointer (some ⟨b,o,none⟩),.int .u8 x,.int .i64 t,
      .func (.func 327) #[] #[.pointer (some ⟨C.heap.size+1,0,none⟩),.pointer (some ⟨C.heap.size,0,none⟩)],.agg #[.int .u8 y.s,.int .u8 y.e],undef,undef,undef,undef,a7,a3,a2,undef],defers:=[]}))
     (λx a'=>AxP.own) ?assign ?body ?done ?stop
    case assign=>
     rintro l2 G y Wa K U hK;have HM:=qH U;have HK:=qH (λ(a':Act) (W':World) (P:KeepsFrom J.heap.size Wa W') (T:Kept (Sx R M J.heap.size) Wa W') (h3:IA J M R J.heap.size L G W') h4=>hK a' W' P T h3 h4);clear hK U;unfold KF;gi_wp2;exact HK.o _ _ ((KeepsOthers.alloc _ _).from _) ((Kept.refl _ _).alloc _) ((IA.own (by omega)).alloc _ HM.o) ⟨Wa.heap.size,HM.o.2.size,new_at _ _,rfl⟩
    case body=>
     rintro l2 G y a' Wb b0 ⟨r,hr⟩ ⟨⟨v',m1,m2,m3⟩,mk⟩ ⟨Bx,aS,a4,rfl⟩ a9;obtain⟨ys,ye⟩:=y;simp only at a4 ⊢;obtain⟨x0,x1⟩:=si a4;have s0:=one_cell m1;have b5:=(qW.1 m1).1;obtain⟨H1,H2,H3,aA⟩:=qh4 m1 m2 m3 mk;have aY:=mk.size;obtain⟨m,hm⟩:∃m,(L++G).length=m:=⟨_,rfl⟩
     have b6:m<=4000:=by rw[qA] at hm;omega
     have aH:=qH (λ(w:World) (h:Owr (M+1) w v' (L++G)) (j:Nat) (ob:Obj) (e:v'.ownBlock=some j) (ho:w.heap[j]? =some ob)=>show ob.isCells=true from by
      obtain⟨cs,B⟩:=h.ty j e;rw[ho] at B;cases B;rfl)
     have aD:=qH hm;clear m1 m2 m3 mk a4 a9 hr gv gt O hm
     gi_wp2_with (gi_at_builtin;refine lE rfl (.tmp 22) (.tmp 24) rfl (M+1) v' (L++G) rfl (H2.o.alloc _) Wb.heap.size 1 ys ye rfl (by simp) m aD.o (by omega) (by simp;omega) ?_;intro gg aK w4 o4 g4 b4;have q4:=(g4.block M (by simp;omega) (λe=>by have:=(H2.o.lt M e.symm).1;omega)).trans (old_at _ H1.o);have q5:=one_cell q4;have q6:=one_free q4;obtain⟨O4,G4,B4,Q4⟩:=qh4 o4 g4 b4 q4;clear o4 g4 b4 q4)
     all_goals gi_wp2
     have aj:Kept (Sx R M J.heap.size) Wb (w4.setCell ⟨M,0,none⟩ (.slice (some ⟨gg,0,none⟩) (m+1) aK)):=(((Kept.refl _ Wb).alloc _).grown G4.o (λk e=>by
      rcases H3.o k e with q|q
      · exact .inl (.inl q)
      · exact .inl (.inr (.inr q)))).setCell ⟨M,0,none⟩ (.inl (.inr (.inl rfl))) _
     exact⟨(((KeepsOthers.alloc _ _).trans (KeepsOthers.of_grownBy G4.o (λj ob e ho=>aH.o _ (H2.o.alloc _) j ob e ho))).trans (KeepsOthers.setCell _ _ _)).from _,aj,
      ⟨_,one_set Q4.o _,by rw[<-qD];exact O4.o.at (λg e=>sU _ (by have:=(O4.o.lt g e).1;omega)),λg e=>by
       obtain rfl:gg=g:=by simpa [Value.ownBlock] using e
       rcases B4.o with q|q
       · exact H3.o gg q
       · right;simp at q;omega⟩,keptSx_t aA.o aj⟩
    case done=>
     rintro D ys W4 hD rfl ⟨⟨v',m1,m2,m3⟩,mk⟩ hK;obtain⟨H1,H2,aR⟩:=qh3 m1 m2 hK;have ai:=qH (show ∀a c',(t<ni->a=some ⟨b,o+t,none⟩)->ni - t<=c'->PkS w M l (i+t) (ni - t) c' a v' (L++one x t) (D::Ds) W4 from λa c' ha aP=>by
      have aq:∀V∈Ds,V<W.heap.size:=λV h=>(qW.1 (u.o.mk' V h).2).1
      refine⟨a0.o a (λq=>⟨b,o,rfl,ha q⟩),aP,m1,m2,N.o,ah,?_,List.nodup_cons.2 ⟨λh=>by have:=aq D h;omega,u.o.nd⟩,λV h=> ?_⟩
      · exact(u.o.bel.trans (ae.o.mono u.o.bel.size)).trans (mk.below (by omega) (λj hj=>by rcases hj with hj|hj|hj<;>omega))
      · rcases Ab.1 h with rfl|h
        · exact⟨by omega,hK⟩
        · obtain⟨e1,e2⟩:=u.o.mk' V h
          have e3:=aq V h;refine⟨e1,(mk.block V (by omega) (sx_no (by omega) (λq=> ?_) (by omega))).trans ((ae.o.block V e3).trans e2)⟩;rcases aG.o with g|g
          · omega
          · obtain⟨cs,B⟩:=u.o.own.ty R g
            rw[<-q,e2] at B;cases B)
     clear m1 m2 m3 mk hK gv gt O;have aX:(t:Int)<=(ni:Int):=(by omega);have aQ:=u.o.cap;gi_wp2
     · rename_i b7
       exact⟨⟨i+t,_,_,_,v',L++one x t,D::Ds,ai.o _ _ (λq=>absurd q (by omega)) (by omega),⟨rfl,rfl,rfl⟩,rfl⟩,by simp only[lenOf];omega⟩
     · exact⟨⟨i+t,_,_,_,v',L++one x t,D::Ds,ai.o _ _ (λ_=>rfl) (by omega),⟨rfl,rfl,rfl⟩,rfl⟩,by simp only[lenOf];omega⟩
    case stop=>
     rintro D c G W _ _ h _;exact h.elim
  · obtain rfl:ni=0:=by omega
    have s0:=one_cell I.box;have hdr:l.drop i=[]:=D3 I.row.leng;have a6:=I.told;rw[hdr,gY,Az] at a6;have X:∀g,v.ownBlock=some g->g∉Ds:=λg e h=>by
     obtain⟨cs,B⟩:=u.o.own.ty g e;rw[(u.o.mk' g h).2] at B;cases B
    obtain⟨HR,ay⟩:=qh2 X a6;clear I hdr S X a6;gi_wp2;refine ey Ds W u.o.nd (λD h=>(u.o.mk' D h).2) ?_
    refine⟨.tuple #[v,.int .i64 0],by simp[results,results276,go_sem],v,rfl,?_,?_⟩
    · rw[<-ay.o]
      exact(u.o.own.weak (by have:=u.o.low;omega)).at (λg e=>gT Ds W g (HR.o g e))
    · exact u.o.bel.trans (gU Ds W _ (λD h=>by have:=(u.o.mk' D h).1;have:=u.o.low;omega) u.o.bel.size)
