import Derived.Test.YthgilhebnlglkaaGreatDoorEMDfM
import Derived.RecoverIn
import Derived.Test.YthgilhebnlglkaaGreatDoorEMSpQ
import Derived.Test.YthgilhebnlglkaaGreatDoorERfP
set_option linter.all false
set_option maxHeartbeats 8000000
set_option maxRecDepth 1000000
open Go.Proofs.Tryz
namespace Go.Proofs.YthgilhebnlglkaaGreatDoor.V
open Go Go.RowKit M U
theorem z6J(w:World):(binOp .eql 20 (.iface 160 (.agg #[.int .i64 4])) .nilIface).run prog w=.ok (.bool false) w:=by kernel_rfl
theorem z93(w:World):(Instr.typeAssert (.iface 160 (.agg #[.int .i64 4])) 20 160 true).run prog w=.ok (.tuple #[.agg #[.int .i64 4],.bool true]) w:=by kernel_rfl
theorem catch_idle(n E:Nat)(w:World):
 CallsDIn Fence.wide n prog 113 #[.pointer (some ⟨E,0,none⟩)] .returning w λe u' w'=>e=.returned (.tuple #[])/\u'=.returning/\w'=w:=by
 refine callsDIn_of_wpSIn func113 rfl (by trivial) λc₀ cs hu=> ?_
 apply wpSIn_seq
 apply wpSIn_region
 simp[wpOpsSIn,go_sem,recoverD,hu,ntmps113,Exit.thenS];refine wpSIn_of_wpIn rfl ?_
 gi_wp2;cases c₀;simp_all [bodyPostS,results,results113]
theorem catch_panic(n E:Nat)(y:Value)(older:List PanicEntry)(w:World)(hE:w.cell? ⟨E,0,none⟩=some y)(fE:w.frozen? ⟨E,0,none⟩=false):
 CallsDIn Fence.wide n prog 113 #[.pointer (some ⟨E,0,none⟩)] (.panicking ({v:=.iface 160 (.agg #[.int .i64 4]),recovered:=false}::older)) w λe u' w'=>
  e=.returned (.tuple #[])/\u'=.panicking ({v:=.iface 160 (.agg #[.int .i64 4]),recovered:=true}::older)/\w'=(w.alloc (.cells #[.int .i64 4] 160)).setCell ⟨E,0,none⟩ (.int .i64 4):=by
 have hE1:=qB hE;have bw:Below w.heap.size w (w.alloc (.cells #[.int .i64 4] 160)):=qL;have hN:=heap_alloc_new w (.cells #[.int .i64 4] 160);generalize hw1:w.alloc (.cells #[.int .i64 4] 160)=w1 at bw hN;have e1:w1.cell? ⟨E,0,none⟩=some y:=(bw.cell (p:=⟨E,0,none⟩) hE1).trans hE;have e2:w1.frozen? ⟨E,0,none⟩=false:=(bw.frozen (p:=⟨E,0,none⟩) hE1).trans fE;have e3:w1.cell? ⟨w.heap.size,0,none⟩=some (.int .i64 4):=(by simp[World.cell?,hN]);refine callsDIn_of_wpSIn func113 rfl (by trivial) λc₀ cs hu=> ?_
 apply wpSIn_seq
 apply wpSIn_region
 simp[wpOpsSIn,go_sem,recoverD,hu,ntmps113,Exit.thenS];refine wpSIn_of_wpIn rfl ?_
 rw[show(#[Value.pointer (some {block:=E,off:=0})]++(Array.replicate 11 undef).setIfInBounds 3 (Value.iface 160 (Value.agg #[.int .i64 4])):Array Value)= #[Value.pointer (some {block:=E,off:=0}),undef,undef,undef,.iface 160 (.agg #[.int .i64 4]),undef,undef,undef,undef,undef,undef,undef] from rfl];have n1:=z6J;have n2:=z93
 gi_wp2_with fail
 simp[bodyPostS,results,results113]
def z8m:List Pv->Nat
 |[]=>0
 |q::r=>q.z+z8m r
theorem z2L:∀l r:List Pv,z8m (l++r)=z8m l+z8m r
 |[],r=>by simp[z8m]
 |q::l,r=>by simp only[List.cons_append,z8m,z2L l r];omega
def pbk(A:Option Addr)(c:Nat)(L:List Tk)(s:ByteArray):List Pv->Nat->List Bk
 |[],_=> []
 |q::r,o=>⟨q.k,if c=q.f then A else Option.map (λx=>x.add (q.f*3)) A,q.t - q.f,c - q.f,seg L q.f q.t,s.extract o (o+q.z),r.isEmpty⟩::pbk A c L s r (o+q.z)
theorem zaM{A:Option Addr}{c:Nat}{L:List Tk}{s:ByteArray}{x:Bk}:∀ {l:List Pv} {o:Nat},x∈pbk A c L s l o->∃q∈l,x.k=q.k/\x.A=(if c=q.f then A else Option.map (λx=>x.add (q.f*3)) A)/\x.n=q.t - q.f/\x.L=seg L q.f q.t/\x.raw.size<=s.size
 |[],_,h=>absurd h (by simp[pbk])
 |q::r,o,h=>by
  simp only[pbk,List.mem_cons] at h;rcases h with rfl|h
  · exact⟨q,by simp,rfl,rfl,rfl,rfl,by show(s.extract o (o+q.z)).size<=s.size;rw[ByteArray.size_extract];omega⟩
  · obtain⟨q',h1,h2⟩:=zaM h
    exact⟨q',List.mem_cons_of_mem _ h1,h2⟩
def Pok(n:Nat)(s:ByteArray)(l:List Pv):Prop:=∀dn q td,l=dn++q::td->q.f<=q.t/\q.t<=n/\z8m dn+q.z<=s.size/\q.k<=2
theorem z8S{A:Option Addr}{c:Nat}{L:List Tk}{s:ByteArray}{pre:List Bk}{l:List Pv}{q:Pv}{o:Nat}{BL:List Bk}(h:pre++pbk A c L s (q::l) o=BL):
 (pre++[⟨q.k,if c=q.f then A else Option.map (λx=>x.add (q.f*3)) A,q.t - q.f,c - q.f,seg L q.f q.t,s.extract o (o+q.z),l.isEmpty⟩])++pbk A c L s l (o+q.z)=BL:=by
 rw[qD];exact h
theorem z9h{BL pre r:List Bk}{N:Nat}(h:BL=pre++r)(hN:(bkb BL 0).length<=N):(bkb pre 0).length<=N:=by
 have:(bkb pre 0).length<=(bkb (pre++r) 0).length:=by
  clear hN h
  suffices h:∀ (l r:List Bk) (o:Nat),(bkb l o).length<=(bkb (l++r) o).length from h pre r 0
  intro l
  induction l with
  |nil=>intro r o;simp[bkb]
  |cons x l ih=>
   intro r o;simp only[List.cons_append,bkb,qA];have:=ih r (o+(bkm x.k x.L x.raw x.last o).length);omega
 rw[<-h] at this;omega
attribute [local go_sem] Oper.semAt_some
def AxB(n₁:Nat)(f:Bk->Nat->Act)(x:Bk)(a':Act)(W:World):Prop:=
 ∃Bx,n₁<=Bx/\W.heap[Bx]? =some (.cells #[.int .u8 x.k,.slice x.A x.n x.c,.string x.raw,.bool x.last] 164 (0,0))/\a'=f x Bx
theorem AxB.own{n₁:Nat}{f:Bk->Nat->Act}{x:Bk}{a':Act}:OwnFrom n₁ (λ(_:Unit) W=>AxB n₁ f x a' W):=λ_ W W' row hs hg hr=>by
 obtain⟨Bx,h1,h2,h3⟩:=hs;refine⟨Bx,h1,(hg.block Bx (qW.1 h2).1 (λe=> ?_)).trans h2,h3⟩;obtain⟨_,o,ho,hc⟩:=hr Bx e.symm;rw[h2] at ho;cases ho;cases hc
theorem z98{W:World}{T:TypeId}{g:Nat}{a b c d:Value}(h:W.heap[g]? =some (.cells #[a,b,c,d] T (0,0))):W.cell? ⟨g,0,none⟩=some a/\W.cell? ⟨g,1,none⟩=some b/\W.cell? ⟨g,2,none⟩=some c/\W.cell? ⟨g,3,none⟩=some d:=by simp[World.cell?,h]
def Fit(most:Int)(pre:List Bk):Prop:=((((bkb pre 0).length+7) /8:Nat):Int)<=max 0 most
theorem z8d:∀ (l r:List Bk) (o:Nat),(bkb l o).length<=(bkb (l++r) o).length
 |[],r,o=>by simp[bkb]
 |x::l,r,o=>by
  simp only[List.cons_append,bkb,qA];have:=z8d l r (o+(bkm x.k x.L x.raw x.last o).length);omega
theorem zhr{most:Int}{l r:List Bk}(h:Fit most (l++r)):Fit most l:=by
 unfold Fit at h ⊢;have:=z8d l r 0;omega
theorem z8C(n gf:Nat)(lb:Array Value)(most:Int)(BL:List Bk)(w:World)(hn:2<=n)(hT:Tabs w)(eg:∀args w,(callFunc gf args).run prog w=.ok (.enter gf args) w)
 (hseq:zkt n prog gf lb zjF (λxs=>xs=BL) (λ_=>True) (λpre=> ∃r,BL=pre++r) w)
 (hB:∀x∈BL,z0j w x.A x.n x.L/\x.n<=100000/\x.raw.size<=200000/\x.k<=2/\(x.k≠0->∀t∈x.L,may t=true)/\zjv x.k x.L)
 (hlen:∀pre r,BL=pre++r->(bkb pre 0).length<=50000000):
 CallsIn Fence.wide n prog 80 #[.func (.func gf) #[] lb,.int .i64 most] w λe w'=>
  (Fit most BL->e=.returned (.tuple #[.string (z1y (nb (bkb BL 0)) (bkb BL 0).length),.int .i64 0])/\Below w.heap.size w w')/\
  (¬Fit most BL->e=.returned (.tuple #[.string ⟨#[]⟩,.int .i64 4])/\Below w.heap.size w w'):=by
 have eg2:∀ (args:Array Value) (w:World),(callFunc 113 args).run prog w=.ok (.enter 113 args) w:=enters_of func113 (by kernel_rfl) rfl;have HEg:=qH eg2;clear eg2;have HNew:=qH (λ(W':World)=>zgY (B:=W'.heap.size) most W' qR);refine z3H func80 rfl ?_
 simp only[ntmps80,List.size_toArray,qC,List.length_nil,Nat.reduceAdd,Nat.reduceSub,Array.replicate_succ,Array.replicate_zero,List.push_toArray,List.append_toArray,List.nil_append,List.cons_append];apply z2M;refine z53 (n:=n) ?_
 gi_wp2;apply z2M;refine z53 (n:=n) ?_
 gi_wp2;apply z2M;refine z53 (n:=n) ?_
 have bw1:Below w.heap.size w (w.alloc (.cells #[.int .i64 0] 27)):=(Below.refl _ w).alloc qR _;have hE1:(w.alloc (.cells #[.int .i64 0] 27)).heap[w.heap.size]? =some (.cells #[.int .i64 0] 27 (0,0)):=new_at _ _;have hsz:(w.alloc (.cells #[.int .i64 0] 27)).heap.size=w.heap.size+1:=(by simp);generalize hw1:w.alloc (.cells #[.int .i64 0] 27)=w1 at bw1 hE1 hsz;obtain⟨HB1,HE1⟩:=qh2 bw1 hE1;gi_wp2;refine⟨trivial,λh=>(by cases h),?_⟩;clear hw1 bw1 hE1;refine(callsIn_wide.2 (HNew.o _)).mono ?_
 rintro e w3 ⟨rfl,k3,h3,z3⟩;rw[hsz] at h3 z3 ⊢;obtain⟨K3,H3,Z3⟩:=qh3 k3 h3 z3;clear k3 h3 z3;gi_wp2;apply z2M;apply z2M;refine z53 (n:=n) ?_
 gi_wp2;apply z9z;have hz3:=Z3.o;have hM2:=new_at w3 (.cells #[.pointer (some ⟨w.heap.size+1,0,none⟩)] 161);have hk2:Kept NoB w1 (w3.alloc (.cells #[.pointer (some ⟨w.heap.size+1,0,none⟩)] 161)):=K3.o.alloc _;have hw2:Wt (w3.alloc (.cells #[.pointer (some ⟨w.heap.size+1,0,none⟩)] 161)) (w.heap.size+1) (w.heap.size+1) (λj=>j=w.heap.size+1) (max 0 most) 0 0:=H3.o.keep ((Kept.refl NoB _).alloc _) (λ_ _ g=>g);have hs2:(w3.alloc (.cells #[.pointer (some ⟨w.heap.size+1,0,none⟩)] 161)).heap.size=w3.heap.size+1:=(by simp);generalize hw2':w3.alloc (.cells #[.pointer (some ⟨w.heap.size+1,0,none⟩)] 161)=w2 at hM2 hk2 hw2 hs2 ⊢;generalize hp:w.heap.size+1=p at hM2 hw2 hz3 hsz ⊢;have b2:Below w.heap.size w w2:=HB1.o.trans (hk2.below (by omega) (λj g=>g.elim));have hE2:w2.heap[w.heap.size]? =some (.cells #[.int .i64 0] 27 (0,0)):=(hk2.block _ (by omega) (λg=>g)).trans HE1.o;have hMs:w3.heap.size<w2.heap.size:=(by omega);have hps2:p<w2.heap.size:=(by omega);have hSz:w.heap.size<=w2.heap.size:=b2.size;generalize hMe:w3.heap.size=M at hM2 hMs hz3 ⊢;obtain⟨HM2,HE2,HB2,HW2,HSq⟩:=qh5 hM2 hE2 b2 hw2 hseq;clear HB1 HE1 K3 H3 Z3 hM2 hE2 b2 hw2 hk2 hs2 hw2' hMe hsz hseq HNew
 -- what a round leaves as it is
 have HLow:=qH (λ(W:World) (hk:Kept (Rd p w2.heap.size) w2 W)=>(show Below w.heap.size w W/\W.heap[w.heap.size]? =some (.cells #[.int .i64 0] 27 (0,0))/\W.heap[M]? =some (.cells #[.pointer (some ⟨p,0,none⟩)] 161 (0,0))/\w2.heap.size<=W.heap.size from by
  have no:∀j,j<w2.heap.size->j≠p->¬Rd p w2.heap.size j:=λj h1 h2 g=>by rcases g with g|g<;>omega
  refine⟨HB2.o.trans (hk.below hSz (λj g=>by rcases g with g|g<;>omega)),(hk.block _ (by omega) (no _ (by omega) (by omega))).trans HE2.o,(hk.block _ hMs (no _ hMs (by omega))).trans HM2.o,hk.size⟩))
 refine z9y (n:=n) (gf:=gf) (lb:=lb) rfl eg HSq.o HB2.o (λ_=>rfl)
  (λps W=>z61 w2 w2.heap.size p p (max 0 most) ps W/\(ps.1≠[]->Fit most ps.1))
  (λch pre W=>ch=[{v:=.iface 160 (.agg #[.int .i64 4]),recovered:=false}]/\¬Fit most pre/\Kept (Rd p w2.heap.size) w2 W)
  (λs W W' row hs hg hr=>⟨z61.own s W W' row hs.1 hg hr,hs.2⟩) (λch s W W' row hs hg hr=>⟨hs.1,hs.2.1,hs.2.2.grown hg (λr e=> .inl (.inr (hr r e).1))⟩)
  (λpre T W h j hj=>⟨by have g:Rd p w2.heap.size j:=h.1.rd j hj;rcases g with g|g<;>omega,h.1.lt hj⟩)
  _ ⟨z61.start HW2.o (λj hj=> .inl hj),λh=>absurd rfl h⟩
  (AxB w2.heap.size (λx Bx=> {tmps:= #[.func (.func gf) #[] lb,.int .i64 most,undef,undef,.string ⟨#[]⟩,.pointer (some ⟨w.heap.size,0,none⟩),.pointer (some ⟨M,0,none⟩),.pointer (some ⟨Bx,0,none⟩),
   .func (.func 113) #[] #[.pointer (some ⟨w.heap.size,0,none⟩)],.int .i64 most,.pointer (some ⟨p,0,none⟩),.func (.func gf) #[] lb,.agg #[.int .u8 x.k,.slice x.A x.n x.c,.string x.raw,.bool x.last],
   undef,undef,undef,undef,undef],defers:=[]}))
  (λx a'=>AxB.own) ?assign ?body ?done ?panic
 case assign=>
  rintro l2 pre T y Wa K hmid hK;have HM:=qH hmid;have HK:=qH (λ(a':Act) (W':World) (h1:KeepsFrom w2.heap.size Wa W') (h2:Kept T Wa W') (h3:z61 w2 w2.heap.size p p (max 0 most) (pre,T) W'/\(pre≠[]->Fit most pre)) h4=>hK a' W' h1 h2 h3 h4);clear hK hmid;unfold zjF;gi_wp2;exact HK.o _ _ ((KeepsOthers.alloc _ _).from _) ((Kept.refl _ _).alloc _) ⟨z61.own.alloc _ HM.o.1,HM.o.2⟩ ⟨Wa.heap.size,HM.o.1.kept.size,new_at _ _,rfl⟩
 case body=>
  rintro l2 pre T y a' Wb hl2 ⟨rr,hr⟩ ⟨hst,hft⟩ ⟨Bx,hBx,hxc,rfl⟩ ⟨r,hpre⟩;obtain⟨hb,c2,c3,c4⟩:=HLow.o Wb hst.kept;obtain⟨hx1,hx2,hx3,hx4,hx5,hx6⟩:=hB y (by rw[hpre];simp);have hlp:=hlen pre (y::r) (by rw[hpre];simp);have HP:=qH (hst.round y (by omega) c4 (λw' b=>hT.keep (hb.trans (b.mono (by omega)))) (λw' b=>hx1.below (hb.trans (b.mono (by omega)))) hlp hx2 hx3 hx4 hx5 hx6);obtain⟨x0,x1,x2,x3⟩:=z98 hxc;have m0:=one_cell c3;have HK:=qH hst.kept;clear hx1 hx2 hx3 hx4 hx5 hx6 hlp hst hpre hr hxc c2 c3;by_cases hf:Fit most (pre++[y])
  · have HF:=qH hf
    clear hf;left;gi_wp2;refine⟨trivial,λh=>(by cases h),?_⟩;refine(callsIn_wide.2 HP.o).mono ?_
    rintro e W' ⟨q,_⟩;obtain⟨rfl,q1⟩:=q HF.o;have Q1:=qH q1;clear q q1;gi_wp2;obtain⟨z1,T',z2,z3,z4⟩:=Q1.o;exact⟨z1,z2,T',⟨z3,HF.o⟩,z4⟩
  · have HF:=qH hf
    clear hf;right;gi_wp2;refine⟨trivial,λh=>(by cases h),?_⟩;refine(callsIn_wide.2 HP.o).mono ?_
    rintro e W' ⟨_,q⟩;obtain⟨rfl,q2,q3⟩:=q (by have:=HF.o;unfold Fit at this;omega);have Q2:=qH q2;have Q4:=qH (zjZ HK.o q3);clear q q2 q3;gi_wp2;exact⟨Q2.o,HF.o,Q4.o⟩
 case done=>
  rintro D ys T W4 hD rfl ⟨hst,hft⟩ hK;obtain⟨hb4,c2,c3,c4⟩:=HLow.o W4 hst.kept;have hfit:Fit most ys:=by
   by_cases h:ys=[]
   · subst h
     show(((0+7) /8:Nat):Int)<=max 0 most
     omega
   · exact hft h
  obtain⟨hwt,hSr,hkp⟩:=hst;simp only at hwt;have HText:=qH (Go.Proofs.YthgilhebnlglkaaGreatDoor.text_any hwt (by have:=hlen ys [] (by simp);omega));have m0:=one_cell c3;refine⟨.inl rfl,?_⟩;refine z53 (n:=n) ?_
  gi_wp2;refine⟨trivial,λh=>(by cases h),?_⟩;refine(callsIn_wide.2 HText.o).mono ?_
  rintro e w5 ⟨rfl,k5⟩;have f2:=(k5.block w.heap.size (by omega) (λg=>g)).trans c2;have fD:=(k5.block D (qW.1 hK).1 (λg=>g)).trans hK;generalize hTX:z1y (nb (bkb ys 0)) (bkb ys 0).length=TX;have g3:=one_cell f2;have g4:=one_free f2;have f6:=one_set f2 (.int .i64 0);have fD2:=(zaa (W:=w5) (g:=w.heap.size) (k:=D) (.int .i64 0) (by omega)).trans fD;obtain⟨F6,FD2,K5⟩:=qh3 f6 fD2 k5;clear f2 fD f6 fD2 k5 hK;gi_wp2;have hb6:Below w.heap.size w (w5.setCell ⟨w.heap.size,0,none⟩ (.int .i64 0)):=(hb4.trans (K5.o.below hb4.size (λj g=>g.elim))).setCell qR _;generalize hW6:w5.setCell ⟨w.heap.size,0,none⟩ (.int .i64 0)=W6 at F6 FD2 hb6 ⊢;have e2:=(World.putObj_heap_other (w:=W6) (o:=.deferred none) (show w.heap.size≠D by omega)).trans F6.o;have q2:=one_cell e2;refine⟨by simp,.inl ⟨D,_,rfl,run_takeDeferred FD2.o,?_⟩⟩;refine⟨by simp,.inr ⟨λh=>(by cases h),_,_,_,_,rfl,by simp[invoke,go_sem,HEg.o],λ_ _=>trivial,(catch_idle (n - 1) w.heap.size _).mono ?_⟩⟩;rintro e u' w'' ⟨rfl,rfl,rfl⟩;have hb7:Below w.heap.size w (W6.putObj D (.deferred none)):=hb6.grown (grownBy_putObj' W6 D _) hb6.size (λk e=>by cases e;omega);simp[LeavesInM,LeavesIn,settle,results,results80,go_sem,q2];exact⟨λ_=>⟨hTX.symm,hb7⟩,hfit⟩
 case panic=>
  rintro D ch pre W4 hD ⟨r,hpre⟩ ⟨rfl,hnf,hk⟩ hK;obtain⟨hb4,c2,c3,c4⟩:=HLow.o W4 hk;refine⟨.inr ⟨_,rfl⟩,?_⟩;have e2:=(World.putObj_heap_other (w:=W4) (o:=.deferred none) (show w.heap.size≠D by omega)).trans c2;refine⟨by simp,.inl ⟨D,_,rfl,run_takeDeferred hK,?_⟩⟩;refine⟨by simp,.inr ⟨λh=>(by cases h),_,_,_,_,rfl,?_,λ_ _=>trivial,(catch_panic (n - 1) w.heap.size _ [] _ (one_cell e2) (one_free e2)).mono ?_⟩⟩
  · simp[invoke,go_sem,HEg.o]
  · rintro e u' w'' ⟨rfl,rfl,rfl⟩
    have a2:=old_at (.cells #[.int .i64 4] 160) e2;have a6:=one_set a2 (.int .i64 4);have q2:=one_cell a6;have hnb:¬Fit most BL:=λh=>hnf (by rw[hpre] at h;exact zhr h)
    have hbb:Below w.heap.size w (((W4.putObj D (.deferred none)).alloc (.cells #[.int .i64 4] 160)).setCell ⟨w.heap.size,0,none⟩ (.int .i64 4)):=
     ((hb4.grown (grownBy_putObj' W4 D _) hb4.size (λk e=>by cases e;omega)).alloc (by simp;omega) _).setCell qR _
    simp[LeavesInM,LeavesIn,settle,results,results80,go_sem,q2];exact⟨hnb,λ_=>hbb⟩
end Go.Proofs.YthgilhebnlglkaaGreatDoor.V
namespace Go.Proofs.YthgilhebnlglkaaGreatDoor.V
open Go Go.RowKit M U
attribute [local go_sem] Oper.semAt_some
theorem zch(m:Nat)(K:Act->World->Prop)(y u4 u8 s9 s10 s11 s12 s13 s14 s15 s16 u17 u18 u19 u20 u21 u22 u23 u24 u25 u26 u27 u28 u29 u30 u31 u32 u33 u34 u35 u36 u37 u38 u39 u40 u41 u42 u43:Value)(Bs Bp Bt G j N f t z k n c g cp r:Nat)(A X:Option Addr)(R RA:ByteArray)(la:Bool)(w1:World)
 (q0:w1.cell? ⟨G,0,none⟩=some (.int .i64 f)) (q1:w1.cell? ⟨G,1,none⟩=some (.int .i64 t)) (q2:w1.cell? ⟨G,2,none⟩=some (.int .i64 z)) (q3:w1.cell? ⟨G,3,none⟩=some (.int .u8 k))
 (t1:w1.cell? ⟨Bt,0,none⟩=some (.slice A n c)) (p1:w1.cell? ⟨Bp,0,none⟩=some (.slice (some ⟨g,0,none⟩) N cp)) (hft:f<=t) (htc:t<=c) (hfc:f<=c) (hX:(if c=f then A else Option.map (λx=>x.add (f*3)) A)=X) (hRs:R.size=r) (hzr:z<=r) (hr7:r<=1000000) (hR1:R.extract 0 z=RA)
 (hN:N<=1000) (hnc:n<=c) (hn:n<=1000000) (htn:t<=n) (e1:((j:Int)==(N:Int) - 1)=la)
 (hK:K {tmps:= #[y,.pointer (some ⟨Bs,0,none⟩),.pointer (some ⟨Bp,0,none⟩),.pointer (some ⟨Bt,0,none⟩),u4,.string R,.int .i64 j,.pointer (some ⟨G,0,none⟩),.pointer (some ⟨w1.heap.size,0,none⟩),s9,s10,s11,s12,s13,s14,s15,s16,
  .pointer (some ⟨G,3,none⟩),.int .u8 k,.slice A n c,.pointer (some ⟨G,0,none⟩),.int .i64 f,.pointer (some ⟨G,1,none⟩),.int .i64 t,.slice X (t - f) (c - f),.string R,.pointer (some ⟨G,2,none⟩),.int .i64 z,.string RA,.int .i64 j,.slice (some ⟨g,0,none⟩) N cp,.int .i64 N,.int .i64 ((N:Int) - 1),.bool la,
  .agg #[.int .u8 k,.slice X (t - f) (c - f),.string RA,.bool la],u35,u36,u37,u38,u39,u40,u41,u42,u43],defers:=[]} (w1.alloc (.cells #[.int .u8 k,.slice X (t - f) (c - f),.string RA,.bool la] 164)).drew):
 Code.wpIn Fence.wide m prog (Code.region 4 #[
  {dst:=some 17,op:=Op.fieldAddr 102 (Operand.tmp 7) 3,type:=0,pos:= "deflate.go:70",after:= #[],guard:=none}, 
  {dst:=some 18,op:=Op.load 5 (Operand.tmp 17),type:= 5,pos:= "deflate.go:70",after:= #[{on:=0,ground:=Ground.data}],guard:=none}, 
  {dst:=some 19,op:=Op.load 92 (Operand.tmp 3),type:= 92,pos:= "deflate.go:70",after:= #[],guard:=none}, 
  {dst:=some 20,op:=Op.fieldAddr 102 (Operand.tmp 7) 0,type:=0,pos:= "deflate.go:70",after:= #[],guard:=none}, 
  {dst:=some 21,op:=Op.load 3 (Operand.tmp 20),type:= 3,pos:= "deflate.go:70",after:= #[{on:=3,ground:=Ground.data}],guard:=none}, 
  {dst:=some 22,op:=Op.fieldAddr 102 (Operand.tmp 7) 1,type:=0,pos:= "deflate.go:70",after:= #[],guard:=none}, 
  {dst:=some 23,op:=Op.load 3 (Operand.tmp 22),type:= 3,pos:= "deflate.go:70",after:= #[{on:=5,ground:=Ground.data}],guard:=none}, 
  {dst:=some 24,op:=Op.slice 92 (Operand.tmp 19) (some (Operand.tmp 21)) (some (Operand.tmp 23)) none,type:= 92,pos:= "deflate.go:70",after:= #[{on:=2,ground:=Ground.data},{on:=4,ground:=Ground.data},{on:=6,ground:=Ground.data}],guard:=none}, 
  {dst:=some 25,op:=Op.move (Operand.tmp 5),type:= 9,pos:= "deflate.go:70",after:= #[],guard:=none}, 
  {dst:=some 26,op:=Op.fieldAddr 102 (Operand.tmp 7) 2,type:=0,pos:= "deflate.go:70",after:= #[],guard:=none}, 
  {dst:=some 27,op:=Op.load 3 (Operand.tmp 26),type:= 3,pos:= "deflate.go:70",after:= #[{on:=9,ground:=Ground.data}],guard:=none}, 
  {dst:=some 28,op:=Op.slice 9 (Operand.tmp 25) none (some (Operand.tmp 27)) none,type:= 9,pos:= "deflate.go:70",after:= #[{on:=8,ground:=Ground.data},{on:=10,ground:=Ground.data}],guard:=none}, 
  {dst:=some 29,op:=Op.move (Operand.tmp 6),type:= 3,pos:= "deflate.go:70",after:= #[],guard:=none}, 
  {dst:=some 30,op:=Op.load 99 (Operand.tmp 2),type:= 99,pos:= "deflate.go:70",after:= #[],guard:=none}, 
  {dst:=some 31,op:=Op.call {callee:=Callee.builtin Builtin.len,args:= #[Operand.tmp 30],argTypes:= #[99]},type:= 3,pos:= "deflate.go:70",after:= #[{on:=13,ground:=Ground.data}],guard:=none}, 
  {dst:=some 32,op:=Op.binOp BinOp.sub 3 (Operand.tmp 31) (Operand.const (Value.int IntKind.i64 1)) 3,type:= 3,pos:= "deflate.go:70",after:= #[{on:=14,ground:=Ground.data}],guard:=none}, 
  {dst:=some 33,op:=Op.binOp BinOp.eql 3 (Operand.tmp 29) (Operand.tmp 32) 3,type:= 4,pos:= "deflate.go:70",after:= #[{on:=12,ground:=Ground.data},{on:=15,ground:=Ground.data}],guard:=none}, 
  {dst:=some 34,op:=Op.build 164 #[(0,Operand.tmp 18),(1,Operand.tmp 24),(2,Operand.tmp 28),(3,Operand.tmp 33)],type:= 164,pos:= "deflate.go:70",after:= #[{on:=1,ground:=Ground.data},{on:=7,ground:=Ground.data},{on:=11,ground:=Ground.data},{on:=16,ground:=Ground.data}],guard:=none}, 
  {dst:=some 8,op:=Op.alloc 164,type:=0,pos:= "deflate.go:70",after:= #[],guard:=none}, 
  {dst:=none,op:=Op.store 164 (Operand.tmp 8) (Operand.tmp 34),type:=0,pos:= "deflate.go:70",after:= #[{on:=18,ground:=Ground.data},{on:=17,ground:=Ground.data},{on:=0,ground:=Ground.phase},{on:=1,ground:=Ground.phase},{on:=2,ground:=Ground.phase},{on:=3,ground:=Ground.phase},{on:=4,ground:=Ground.phase},{on:=5,ground:=Ground.phase},{on:=6,ground:=Ground.phase},{on:=7,ground:=Ground.phase},{on:=8,ground:=Ground.phase},{on:=9,ground:=Ground.phase},{on:=10,ground:=Ground.phase},{on:=11,ground:=Ground.phase},{on:=12,ground:=Ground.phase},{on:=13,ground:=Ground.phase},{on:=14,ground:=Ground.phase},{on:=15,ground:=Ground.phase},{on:=16,ground:=Ground.phase},{on:=17,ground:=Ground.phase},{on:=18,ground:=Ground.phase}],guard:=none}] true) (Exit.then K (λ_ _ _=>False))
  {tmps:= #[y,.pointer (some ⟨Bs,0,none⟩),.pointer (some ⟨Bp,0,none⟩),.pointer (some ⟨Bt,0,none⟩),u4,.string R,.int .i64 j,.pointer (some ⟨G,0,none⟩),u8,s9,s10,s11,s12,s13,s14,s15,s16,u17,u18,u19,u20,u21,u22,u23,u24,u25,u26,u27,u28,u29,u30,u31,u32,u33,u34,u35,u36,u37,u38,u39,u40,u41,u42,u43],defers:=[]} w1:=by
 have HK:=qH hK;clear hK;have far:∀ {a:Addr} {v:Value},w1.cell? a=some v->(w1.alloc (.cells #[.int .u8 0,.slice none 0 0,.string ⟨#[]⟩,.bool false] 164)).drew.cell? a=some v:=λ{a v} h=>by
  have:=qB h;exact(((Below.refl w1.heap.size w1).alloc qR _).cell (p:=a) this).trans h
 have t2:=far t1;have p2:=far p1;have r0:=far q0;have r1:=far q1;have r2:=far q2;have r3:=far q3;clear far;dsimp only
 gi_big_region
 exact HK.o
end Go.Proofs.YthgilhebnlglkaaGreatDoor.V
namespace Go.Proofs.YthgilhebnlglkaaGreatDoor.V
open Go Go.RowKit M U
attribute [local go_sem] Oper.semAt_some
theorem z92{S:Nat->Prop}{w w':World}(b:Below w.heap.size w w'):Kept S w w':=⟨b.os,b.tape,b.output,b.size,λk hk _=>b.block k hk⟩
theorem z9g(m l Bs Bp Bt n₁:Nat)(A:Option Addr)(n c g cp:Nat)(L:List Tk)(s:ByteArray)(PL:List Pv)(BL:List Bk)(hm:1<=m)(hnc:n<=c)(hn:n<=1000000)(hs:s.size<=1000000)(hPl:PL.length<=1000)(hok:Pok n s PL)(hBL:pbk A c L s PL 0=BL)
 (hBs:Bs<n₁) (hBp:Bp<n₁) (hBt:Bt<n₁) (hg:g<n₁) (W0:World)
 (J:List Bk×(Nat->Prop)->World->Prop) (Jx:List Bk->World->Prop) (Jp:List PanicEntry->List Bk->World->Prop) (hJ:AbidesFrom W0.heap.size J) (hJT:∀pre T W1,J (pre,T) W1->∀j,T j->n₁<=j/\j<W1.heap.size)
 (hY:∀pre T x W,J (pre,T) W->(∃r,BL=pre++[x]++r)->YieldAt Fence.wide (m - 1) prog l (zjF x) W λe W'=>
  (e=.returned (.bool true)/\∃T',J (pre++[x],T') W'/\Kept T W W'/\∀j,T' j->T j\/W.heap.size<=j)\/(e=.returned (.bool false)/\Jx (pre++[x]) W')\/(∃ch,e=.panicked ch/\Jp ch (pre++[x]) W'))
 (cS:W0.cell? ⟨Bs,0,none⟩=some (.string s)) (cP:W0.cell? ⟨Bp,0,none⟩=some (.slice (some ⟨g,0,none⟩) PL.length cp)) (cT:W0.cell? ⟨Bt,0,none⟩=some (.slice A n c))
 (cPL:∀i q,PL[i]? =some q->W0.cell? ⟨g,i*4,none⟩=some (.int .i64 q.f)/\W0.cell? ⟨g,i*4+1,none⟩=some (.int .i64 q.t)/\W0.cell? ⟨g,i*4+2,none⟩=some (.int .i64 q.z)/\W0.cell? ⟨g,i*4+3,none⟩=some (.int .u8 q.k))
 (h0:∃T,J ([],T) W0):
 CallsIn Fence.wide m prog 117 #[.func (.yield l) #[] #[],.pointer (some ⟨Bs,0,none⟩),.pointer (some ⟨Bp,0,none⟩),.pointer (some ⟨Bt,0,none⟩)] W0 λe W'=>
  (∃v,e=.returned v/\((∃xs,xs=BL/\∃T,J (xs,T) W')\/(∃pre:List Bk,True/\Jx pre W')))\/(∃ch pre,e=.panicked ch/\(∃r,BL=pre++r)/\Jp ch pre W'):=by
 have HJT:=qH hJT;have no:∀ {j},j<n₁->¬n₁<=j:=λh=>by omega
 have noP:=no hBp;have noT:=no hBt;have noG:=no hg;obtain⟨HOk,HPL,HY,HT,HPc⟩:=qh5 hok cPL hY cT cP;obtain⟨N,hN⟩:∃N,PL.length=N:=⟨_,rfl⟩
 have HN:=qH hN;rw[hN] at cP HPc hPl;clear hok cPL hY cT no hN hJT;refine callsIn_of_wp func117 rfl trivial ?_ rfl;simp only[ntmps117,List.size_toArray,qC,List.length_nil,Nat.reduceAdd,Nat.reduceSub,Array.replicate_succ,Array.replicate_zero,List.push_toArray,List.append_toArray,List.nil_append,List.cons_append];gi_wp2
 gi_loopw [5,12] (λr i wr=> ∃ (j:Nat) (dn td:List Pv) (pre:List Bk),PL=dn++td/\dn.length=j/\i=.int .i64 j/\r=.string (s.extract (z8m dn) s.size)/\pre++pbk A c L s td (z8m dn)=BL/\(∃T,J (pre,T) wr)/\Kept (λj=>n₁<=j) W0 wr)
  (λ_ i _=>N - (intOf i).toNat)
 case atStart=>exact⟨0,[],PL,[],rfl,rfl,rfl,by rw[show z8m []=0 from rfl,ByteArray.extract_zero_size],hBL,h0,Kept.refl _ _⟩
 case round=>
  obtain⟨j,dn,td,pre,hp,hj,rfl,rfl,hb,⟨T,hJs⟩,hkp⟩:=hrel;obtain⟨HHb,HHp,HK⟩:=qh3 hb hp hkp;have HJq:=qH (λW' (b:Below wr.heap.size wr W')=>hJ (pre,T) wr W' none hJs ⟨b.os,b.tape,b.output,b.size,λk hk _=>b.block k hk⟩ (λr e=>by cases e));cases td with
  |nil=>
   have e0:j=N:=(by rw[<-hj,<-HN.o,hp,List.append_nil]);subst e0;clear hb hp hkp hj;gi_wp2;go_end0;exact .inl ⟨_,rfl,.inl ⟨_,rfl,by have:=HHb.o;simp only[pbk,List.append_nil] at this;subst this;exact⟨T,hJs⟩⟩⟩
  |cons q td=>
   have hlt:j<N:=(by rw[<-hj,<-HN.o,hp,qA,qC];omega);have hq:PL[j]? =some q:=(by rw[hp,<-hj];simp);obtain⟨o1,o2,o3,o4⟩:=HOk.o dn q td hp;obtain⟨a0,a1,a2,a3⟩:=HPL.o j q hq;have n0:=hkp.cell a0 noG;have n1:=hkp.cell a1 noG;have n2:=hkp.cell a2 noG;have n3:=hkp.cell a3 noG;clear a0 a1 a2 a3;have t0:=hkp.cell HT.o noT;have p0:=hkp.cell HPc.o noP;have hlast:td.isEmpty=decide (j+1=N):=by
    have e:N=j+1+td.length:=(by rw[<-HN.o,hp,qA,qC,hj];omega);cases td with
    |nil=>exact(q9T (by simpa using e.symm)).symm
    |cons x td=>exact(qF (by rw[e,qC];omega)).symm
   obtain⟨f,t,z,k⟩:=q;simp only at o1 o2 o3 o4 n0 n1 n2 n3;have HNx:=qH (z8S HHb.o);have HZt:=qH (show z8m (dn++[⟨f,t,z,k⟩])=z8m dn+z by rw[z2L];rfl);generalize ho:z8m dn=o at HNx HZt o3 ⊢;simp only at HNx;rw[hlast] at HNx;generalize hX:((if c=f then A else Option.map (λx=>x.add (f*3)) A))=X at HNx;obtain⟨R,hR⟩:∃R,s.extract o s.size=R:=⟨_,rfl⟩
   have hRs:R.size=s.size - o:=(by rw[<-hR,ByteArray.size_extract];omega);generalize hr:s.size - o=r at hRs;have hR1:R.extract 0 z=s.extract o (o+z):=(by rw[<-hR,ByteArray.extract_extract];congr 1<;>omega);have hR2:R.extract z r=s.extract (o+z) s.size:=(by rw[<-hR,ByteArray.extract_extract];congr 1<;>omega);generalize hRA:s.extract o (o+z)=RA at HNx hR1;rw[hR];have hzr:z<=r:=(by omega);have hr7:r<=1000000:=(by omega);have htc:t<=c:=(by omega);have hfc:f<=c:=(by omega);have e1:((j:Int)==(N:Int) - 1)=decide (j+1=N):=by
    by_cases h:j+1=N
    · rw[q9T h,beq_iff_eq];omega
    · rw[qF h,qN];omega
   generalize hla:(decide (j+1=N))=la at e1 HNx;have HR2:=qH hR2;clear hb hp hkp hq hJs hlast hR hr ho hRA hla hR2;gi_wp2;have b1:Below wr.heap.size wr (wr.alloc (.cells #[.int .i64 f,.int .i64 t,.int .i64 z,.int .u8 k] 102)):=qL;have hP1:=Hb.new wr 102 #[.int .i64 f,.int .i64 t,.int .i64 z,.int .u8 k];have hz1:(wr.alloc (.cells #[.int .i64 f,.int .i64 t,.int .i64 z,.int .u8 k] 102)).heap.size=wr.heap.size+1:=(by simp);generalize wr.alloc (.cells #[.int .i64 f,.int .i64 t,.int .i64 z,.int .u8 k] 102)=w1 at b1 hP1 hz1 ⊢;obtain⟨q0,q1,q2,q3⟩:=hP1.cells4;have t1:w1.cell? ⟨Bt,0,none⟩=some (.slice A n c):=(b1.cell (p:=⟨Bt,0,none⟩) (qB t0)).trans t0;have p1:w1.cell? ⟨Bp,0,none⟩=some (.slice (some ⟨g,0,none⟩) N cp):=(b1.cell (p:=⟨Bp,0,none⟩) (qB p0)).trans p0;obtain⟨HB1,HP1⟩:=qh2 b1 hP1;clear b1 hP1 t0 p0 n0 n1 n2 n3;refine wpIn_mono (zch m _ _ _ _ _ _ _ _ _ _ _ _ _ _ _ _ _ _ _ _ _ _ _ _ _ _ _ _ _ _ _ _ _ _ _ _ _ _ _ Bs Bp Bt wr.heap.size j N f t z k n c g cp r A X R RA la w1 q0 q1 q2 q3 t1 p1 o1 htc hfc hX hRs hzr hr7 hR1 hPl hnc hn o2 e1 ?_) (λe a w h=>by cases e<;>first|exact h|exact h.elim);rw[hz1];have b2:Below wr.heap.size wr (w1.alloc (.cells #[.int .u8 k,.slice X (t - f) (c - f),.string RA,.bool la] 164)).drew:=(HB1.o.alloc HB1.o.size _).trans (Below.refl _ _).drew;have hP2:=(HP1.o.alloc (.cells #[.int .u8 k,.slice X (t - f) (c - f),.string RA,.bool la] 164)).drew;have hB2:=(Hb.new w1 164 #[.int .u8 k,.slice X (t - f) (c - f),.string RA,.bool la]).drew;rw[hz1] at hB2;generalize (w1.alloc (.cells #[.int .u8 k,.slice X (t - f) (c - f),.string RA,.bool la] 164)).drew=w2 at b2 hP2 hB2 ⊢;obtain⟨x0,x1,x2,x3⟩:=hB2.cells4;obtain⟨fn,tmps,assign,body,hy,hRd⟩:=HY.o pre T ⟨k,X,t - f,c - f,seg L f t,RA,la⟩ w2 (HJq.o w2 b2) ⟨_,HNx.o.symm⟩;unfold zjF at hy;dsimp only at hy;have HTl:=qH (HJT.o pre T wr (HJq.o wr (Below.refl _ _)));obtain⟨HP2,HB2⟩:=qh2 hP2 b2;clear hP2 b2 t1 p1 q0 q1 q2 q3 hz1 e1 hX hR1;gi_wp2;refine hRd.mono ?_
   clear hy hRd x0 x1 x2 x3 hB2;rintro e W3 (⟨rfl,T',hJ3,hk3,hT3⟩|⟨rfl,hJx3⟩|⟨ch,rfl,hJp3⟩)
   · have hP3:=HP2.o.kept hk3 (λh=>by have:=(HTl.o _ h).2;omega)
     obtain⟨q0,q1,q2,q3⟩:=hP3.cells4;have HK3:=qH (HK.o.trans ((z92 HB2.o).trans (hk3.mono λj hj=>(HTl.o j hj).1) λj hj=> .inl hj) λj hj=> .inl hj);have HJ3:=qH hJ3;clear hk3 hJ3 hT3 hP3 q0 q1 q3;gi_wp2;go_roundw
     case rel=>exact⟨j+1,dn++[⟨f,t,z,k⟩],td,pre++[⟨k,X,t - f,c - f,seg L f t,RA,la⟩],by rw[qD];exact HHp.o,by rw[qA,hj];rfl,by go_num,by rw[HZt.o,<-HR2.o],by rw[HZt.o];exact HNx.o,⟨T',HJ3.o⟩,HK3.o⟩
     case measure=>(simp[intOf];try omega)
   · gi_wp2
     refine bodyPost_ret (results_none rfl _ _ _) rfl ?_
     exact .inl ⟨_,rfl,.inr ⟨_,trivial,hJx3⟩⟩
   · gi_wp2
     exact⟨rfl,.inr ⟨_,_,rfl,⟨_,HNx.o.symm⟩,hJp3⟩⟩
end Go.Proofs.YthgilhebnlglkaaGreatDoor.V
namespace Go.Proofs.YthgilhebnlglkaaGreatDoor.V
open Go Go.RowKit M U
def Pcs(w:World)(g:Nat)(l:List Pv):Prop:=g<w.heap.size/\∀i q,l[i]? =some q->w.cell? ⟨g,i*4,none⟩=some (.int .i64 q.f)/\w.cell? ⟨g,i*4+1,none⟩=some (.int .i64 q.t)/\w.cell? ⟨g,i*4+2,none⟩=some (.int .i64 q.z)/\w.cell? ⟨g,i*4+3,none⟩=some (.int .u8 q.k)
theorem Pcs.below{w w':World}{g:Nat}{l:List Pv}(h:Pcs w g l)(hb:Below w.heap.size w w'):Pcs w' g l:=
 ⟨Nat.lt_of_lt_of_le h.1 hb.size,λi q hq=>by
  obtain⟨a,b,c,d⟩:=h.2 i q hq;exact⟨(hb.cell (p:=⟨g,i*4,none⟩) h.1).trans a,(hb.cell (p:=⟨g,i*4+1,none⟩) h.1).trans b,(hb.cell (p:=⟨g,i*4+2,none⟩) h.1).trans c,(hb.cell (p:=⟨g,i*4+3,none⟩) h.1).trans d⟩⟩
theorem Pcs.of_owp{w:World}{B:Nat}{v:Value}{l:List Pv}(h:Owp B w v l)(h0:0<l.length):∃g c,v=.slice (some ⟨g,0,none⟩) l.length c/\Pcs w g l:=by
 obtain⟨g,c,rfl,_⟩:=h.form h0;exact⟨g,c,rfl,(h.lt g rfl).2,λi q hq=>h.cell rfl hq⟩
theorem z9f(A A2:Option Addr)(n c n2 c2:Nat)(s:ByteArray)(w:World):Calls prog 81 #[.slice A n c,.slice A2 n2 c2,.string s] w λe w'=>
 e=.returned (.func (.func 117) #[] #[.pointer (some ⟨w.heap.size+1+1,0,none⟩),.pointer (some ⟨w.heap.size+1,0,none⟩),.pointer (some ⟨w.heap.size,0,none⟩)])/\
  w'=((w.alloc (.cells #[.slice A n c] 92)).alloc (.cells #[.slice A2 n2 c2] 99)).alloc (.cells #[.string s] 9):=by
 go_enter func81,ntmps81;go_wp2;go_ret;exact⟨by simp,rfl⟩
theorem z5y(A:Option Addr)(n c g cp:Nat)(L:List Tk)(s:ByteArray)(PL:List Pv)(most:Int)(w1:World)(hT:Tabs w1)(hI:z0j w1 A n L)(hnc:n<=c)(hn:n<=100000)(hs:s.size<=200000)(hPl:PL.length<=1000)(hok:Pok n s PL)(hP:Pcs w1 g PL)
 (hm:∀x∈L,may x=true) (hpc:∀q∈PL,zjv q.k (seg L q.f q.t)) (hlen:(bkb (pbk A c L s PL 0) 0).length<=50000000):
 Calls prog 80 #[.func (.func 117) #[] #[.pointer (some ⟨w1.heap.size+1+1,0,none⟩),.pointer (some ⟨w1.heap.size+1,0,none⟩),.pointer (some ⟨w1.heap.size,0,none⟩)],.int .i64 most]
  (((w1.alloc (.cells #[.slice A n c] 92)).alloc (.cells #[.slice (some ⟨g,0,none⟩) PL.length cp] 99)).alloc (.cells #[.string s] 9)) λe w'=>
  (Fit most (pbk A c L s PL 0)->e=.returned (.tuple #[.string (z1y (nb (bkb (pbk A c L s PL 0) 0)) (bkb (pbk A c L s PL 0) 0).length),.int .i64 0])/\Below w1.heap.size w1 w')/\
  (¬Fit most (pbk A c L s PL 0)->e=.returned (.tuple #[.string ⟨#[]⟩,.int .i64 4])/\Below w1.heap.size w1 w'):=by
 have b3:Below w1.heap.size w1 (((w1.alloc (.cells #[.slice A n c] 92)).alloc (.cells #[.slice (some ⟨g,0,none⟩) PL.length cp] 99)).alloc (.cells #[.string s] 9)):=
  ((qL).alloc (by simp) _).alloc (by simp;omega) _
 have c1:(((w1.alloc (.cells #[.slice A n c] 92)).alloc (.cells #[.slice (some ⟨g,0,none⟩) PL.length cp] 99)).alloc (.cells #[.string s] 9)).cell? ⟨w1.heap.size,0,none⟩=some (.slice A n c):=
  ((Hb.new w1 _ _).alloc _|>.alloc _).cell1
 have c2:(((w1.alloc (.cells #[.slice A n c] 92)).alloc (.cells #[.slice (some ⟨g,0,none⟩) PL.length cp] 99)).alloc (.cells #[.string s] 9)).cell? ⟨w1.heap.size+1,0,none⟩=some (.slice (some ⟨g,0,none⟩) PL.length cp):=by
  have:=((Hb.new (w1.alloc (.cells #[.slice A n c] 92)) 99 #[.slice (some ⟨g,0,none⟩) PL.length cp]).alloc (.cells #[.string s] 9)).cell1
  rwa [World.size_alloc] at this
 have c3:(((w1.alloc (.cells #[.slice A n c] 92)).alloc (.cells #[.slice (some ⟨g,0,none⟩) PL.length cp] 99)).alloc (.cells #[.string s] 9)).cell? ⟨w1.heap.size+1+1,0,none⟩=some (.string s):=by
  have:=(Hb.new ((w1.alloc (.cells #[.slice A n c] 92)).alloc (.cells #[.slice (some ⟨g,0,none⟩) PL.length cp] 99)) 9 #[.string s]).cell1
  rwa [World.size_alloc,World.size_alloc] at this
 have hz:(((w1.alloc (.cells #[.slice A n c] 92)).alloc (.cells #[.slice (some ⟨g,0,none⟩) PL.length cp] 99)).alloc (.cells #[.string s] 9)).heap.size=w1.heap.size+1+1+1:=(by simp);generalize ((w1.alloc (.cells #[.slice A n c] 92)).alloc (.cells #[.slice (some ⟨g,0,none⟩) PL.length cp] 99)).alloc (.cells #[.string s] 9)=w3 at b3 c1 c2 c3 hz ⊢;have eg:∀ (args:Array Value) (w:World),(callFunc 117 args).run prog w=.ok (.enter 117 args) w:=enters_of func117 (by kernel_rfl) rfl;have hP3:=hP.below b3;refine(callsIn_wide.1 (z8C 2 117 _ most (pbk A c L s PL 0) w3 qR (hT.keep b3) eg ?_ ?_ ?_)).mono ?_
 · intro l J Jx Jp W hW hJ hJx hJp hJT hY h0
   exact z9g 2 l _ _ _ w3.heap.size A n c g cp L s PL _ (by decide) hnc (by omega) (by omega) hPl hok rfl (by omega) (by omega) (by omega) hP3.1 W J Jx Jp hJ hJT hY
    ((hW.cell (p:=⟨w1.heap.size+1+1,0,none⟩) (by show w1.heap.size+1+1<w3.heap.size;omega)).trans c3) ((hW.cell (p:=⟨w1.heap.size+1,0,none⟩) (by show w1.heap.size+1<w3.heap.size;omega)).trans c2) ((hW.cell (p:=⟨w1.heap.size,0,none⟩) (by show w1.heap.size<w3.heap.size;omega)).trans c1)
    (hP3.below hW).2 h0
 · intro x hx
   obtain⟨q,hq,e1,e2,e3,e4,e5⟩:=zaM hx;obtain⟨dn,td,hdt⟩:=List.append_of_mem hq;obtain⟨o1,o2,o3,o4⟩:=hok dn q td hdt;rw[e1,e2,e3,e4];exact⟨(hI.below b3).sub hnc o1 o2,by omega,by omega,o4,λ_ t ht=>hm t (z4n ht),hpc q hq⟩
 · intro pre r hpr
   exact z9h hpr hlen
 · intro e w' q
   exact⟨λh=>⟨(q.1 h).1,b3.trans ((q.1 h).2.mono b3.size)⟩,λh=>⟨(q.2 h).1,b3.trans ((q.2 h).2.mono b3.size)⟩⟩
theorem za1:zcx []:=by
 have k1:∀j,0<cs false (sys []) j->j=256:=λj hj=>by
  simp only[za0,cs] at hj
  split at hj
  · rename_i g;exact g.2.symm
  · omega
 have k2:∀j,¬0<cs true (sys []) j:=λj hj=>by
  simp[za0,cs] at hj
 refine⟨λm e h q=> ?_,λm e h q=> ?_,z2V⟩
 · have a0:=k1 _ (h.is_ 0 (by omega)).2.1
   have a1:=k1 _ (h.is_ 1 (by omega)).2.1;have a2:=h.inc 0 1 (by omega) (by omega);omega
 · exact absurd (h.is_ 0 (by omega)).2.1 (k2 _)
theorem zgl(f t:Nat):SzC (seg [] f t):=by
 rw[show seg [] f t=[] by simp[seg]];exact zii za1
theorem zdj:zjv 1 []:=λw B p S most V o A n c raw last h hB hTb hT hL hn hr hk hm=>by
 by_cases hf:(((o+7) /8:Nat):Int)<=most
 · have hm':=hm (by decide)
   have g:=ziF 1 A n c [] raw last 288 fxl (λ_=>5) [] (by omega) (by omega) h hB hTb hT hL hn hr z2V hm' (λw1 b=>z3h A n c [] w1 (hTb w1 b).2 (hT w1 b) hn hm' z2V) (by omega) (by omega) ⟨by simp,λc hc=>absurd hc (by simp)⟩ z7V z9a (λi=>(zfB i).2) (λ_=>by omega) hf;rw[List.flatMap_nil,List.append_nil] at g;rw[zck];unfold sfx;exact g
 · exact zgF 1 A n c raw last _ h hL hf
theorem zjh(w:World)(H:Tabx w):Calls prog 79 #[.string ⟨#[]⟩,.string ⟨#[]⟩,.int .i64 6] w λe w'=> ∃g cp,e=.returned (.tuple #[.slice none 0 0,.slice (some ⟨g,0,none⟩) 1 cp,.int .i64 0])/\Pcs w' g [⟨0,0,0,1⟩]/\Below w.heap.size w w':=by
 have HTk:=qH (Px.tokens_mt w H.1)
 have HPt:=qH (λ(w':World) (b:Below w.heap.size w w')=>(show Calls prog 112 #[.slice none 0 0,.string ⟨#[]⟩] w' (λe w2=> ∃v,e=.returned (.tuple #[v,.int .i64 0])/\Owp w'.heap.size w2 v [⟨0,0,0,1⟩]/\Below w'.heap.size w' w2) from by
  have h:=zdv none 0 0 [] ⟨#[]⟩ w' (H.keep b).2 (z0j.zero w' none) qR (by decide) (by decide) (λt ht=>absurd ht (by simp)) rfl zgl (zbs w');rw[zgG] at h;exact h))
 clear H;go_enter func79,ntmps79
 go_wp2_with (first
  |(go_at_call 111;(with_reducible refine HTk.o.mono ?_);rintro e w1 ⟨rfl,b1⟩;have B1:=qH b1;clear b1)
  |(go_at_call 112;(with_reducible refine(HPt.o w1 B1.o).mono ?_);rintro e w2 ⟨v,rfl,o2,b2⟩;have O2:=qH o2;have B2:=qbt B1 b2;clear o2 b2))
 go_ret3;obtain⟨g,cp,rfl,hp⟩:=Pcs.of_owp O2.o (by simp);exact⟨g,cp,rfl,hp,B2.o⟩
theorem zaL:bkb (pbk none 0 [] ⟨#[]⟩ [⟨0,0,0,1⟩] 0) 0=[1,1,0,0,0,0,0,0,0,0]:=by
 simp only[pbk,bkb,List.append_nil];rw[show seg [] 0 0=[] from rfl,show(⟨#[]⟩:ByteArray).extract 0 (0+0)=⟨#[]⟩ from rfl];rw[z0S (by decide)];unfold blk;rw[if_neg (by decide),if_pos rfl];decide+kernel
theorem deflate_mt(w:World)(H:Tabx w):Calls prog 37 #[.string ⟨#[]⟩,.string ⟨#[]⟩,.int .i64 6,.int .i64 99] w λe w'=>e=.returned (.tuple #[.string ⟨#[3,0]⟩,.int .i64 0])/\Below w.heap.size w w':=by
 have HC:=qH (zjh w H);have hok:Pok 0 ⟨#[]⟩ [⟨0,0,0,1⟩]:=λdn q td e=>by
  cases dn with
  |nil=>simp at e;obtain⟨rfl,rfl⟩:=e;exact⟨Nat.le_refl 0,Nat.le_refl 0,Nat.le_refl 0,by decide⟩
  |cons x dn=>simp at e
 have HS:=qH (λ(g cp:Nat) (w1:World) (b:Below w.heap.size w w1) (hP:Pcs w1 g [⟨0,0,0,1⟩])=>
  z5y none 0 0 g cp [] ⟨#[]⟩ [⟨0,0,0,1⟩] 99 w1 (H.keep b).2 (z0j.zero w1 none) qR (by decide) (by decide) (by decide) hok hP (λx hx=>absurd hx (by simp)) (λq hq=>by
   obtain rfl:q=⟨0,0,0,1⟩:=by simpa using hq
   exact zdj) (by rw[zaL];decide))
 have HF:=qH (show Fit 99 (pbk none 0 [] ⟨#[]⟩ [⟨0,0,0,1⟩] 0) from by unfold Fit;rw[zaL];decide);have HB:=qH (λ(A A2:Option Addr) (n c n2 c2:Nat) (w1:World)=>z9f A A2 n c n2 c2 ⟨#[]⟩ w1);have HR:=qH (show z1y (nb [1,1,0,0,0,0,0,0,0,0]) 10=⟨#[3,0]⟩ from by decide+kernel);rw[zaL] at HS;simp only[qC,List.length_nil,Nat.zero_add] at HS;clear H hok;go_enter func37,ntmps37
 go_wp2_with (first
  |(go_at_call 79;(with_reducible refine HC.o.mono ?_);rintro e w1 ⟨g,cp,rfl,h3,b1⟩;obtain⟨H1,B1⟩:=qh2 h3 b1;clear h3 b1)
  |(go_at_call 81;(with_reducible refine(HB.o none _ 0 0 _ _ w1).mono ?_);rintro e w2 ⟨rfl,rfl⟩)
  |(go_at_call 80;go_loud (with_reducible refine(HS.o g cp w1 B1.o H1.o).mono ?_);rintro e w3 ⟨q1,q2⟩;obtain⟨rfl,b3⟩:=q1 HF.o;have B3:=qbt B1 b3;clear q1 q2 b3))
 go_ret2;exact⟨by rw[<-HR.o];rfl,B3.o⟩
