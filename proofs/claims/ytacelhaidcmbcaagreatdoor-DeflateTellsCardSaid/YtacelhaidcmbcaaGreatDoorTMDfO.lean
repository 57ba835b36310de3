/- Texts of one place, one behind the other: DfO, DfT, DfJ, DfI, DfP, RdD, DfL. -/
import Derived.Test.YtacelhaidcmbcaaGreatDoorTDfK
import Derived.Test.YtacelhaidcmbcaaGreatDoorTMDfA
import Derived.Test.YtacelhaidcmbcaaGreatDoorTMSpK
import Derived.Test.YtacelhaidcmbcaaGreatDoorTSpS
import Derived.Test.YtacelhaidcmbcaaGreatDoorTDfD
import Derived.Test.YtacelhaidcmbcaaGreatDoorTRfP
import Derived.Shelf.Abstract
import Derived.OwnWalkIn
import Derived.LoopNIn
import Derived.LoopIn
import Derived.Laws.EntriesVeiled
import Derived.Test.YtacelhaidcmbcaaGreatDoorTMSpG
import Derived.TacticsInMore
import Derived.BigRegionIn
import Derived.Test.YtacelhaidcmbcaaGreatDoorTMBlA
import Derived.Deep.RegionHeld3
set_option maxHeartbeats 8000000
set_option maxRecDepth 1000000
set_option linter.unusedVariables false
set_option linter.unusedSimpArgs false
namespace Go.Proofs.YtacelhaidcmbcaaGreatDoor.V
open Go Go.RowKit M U
def z3B:List Pv→Nat
 |[]=>0
 |q::r=>q.z+z3B r
theorem z16:∀l r:List Pv,z3B (l++r)=z3B l+z3B r
 |[],r=>by simp[z3B]
 |q::l,r=>by simp only[List.cons_append,z3B,z16 l r];omega
def pbk(A:Option Addr)(c:Nat)(L:List Tk)(s:ByteArray):List Pv→Nat→List Bk
 |[],_=> []
 |q::r,o=>⟨q.k,if c=q.f then A else Option.map (fun x=>x.add (q.f*3)) A,q.t - q.f,c - q.f,seg L q.f q.t,s.extract o (o+q.z),r.isEmpty⟩::pbk A c L s r (o+q.z)
theorem zaM{A:Option Addr}{c:Nat}{L:List Tk}{s:ByteArray}{x:Bk}:∀ {l:List Pv} {o:Nat},x∈pbk A c L s l o→∃q∈l,x.k=q.k∧x.A=(if c=q.f then A else Option.map (fun x=>x.add (q.f*3)) A)∧x.n=q.t - q.f∧x.L=seg L q.f q.t∧x.raw.size≤s.size
 |[],_,h=>absurd h (by simp[pbk])
 |q::r,o,h=>by
  simp only[pbk,List.mem_cons] at h;rcases h with rfl|h
  · exact⟨q,by simp,rfl,rfl,rfl,rfl,by show(s.extract o (o+q.z)).size≤s.size;rw[ByteArray.size_extract];omega⟩
  · obtain⟨q',h1,h2⟩:=zaM h
    exact⟨q',List.mem_cons_of_mem _ h1,h2⟩
theorem zaL{A:Option Addr}{c:Nat}{L:List Tk}{s:ByteArray}:∀ {P:List (Nat×Nat)} {a b:Nat} (O:Nat),Chn a P b→bkb (pbk A c L s (pvs L s P) (szt L a)) O=prs L s P O
 |[],_,_,_,_=>rfl
 |(x,y)::r,a,b,O,h=>by
  obtain⟨h1,h2,h3⟩:=h;simp only at h1 h2 h3;subst h1;have hz:=z0w L h2;have e:szt L x+(szt L y - szt L x)=szt L y:=by omega
  show bkb (pbk A c L s (pvo L s (x,y)::pvs L s r) (szt L x)) O=blq L s (x,y) r.isEmpty O++prs L s r (O+(blq L s (x,y) r.isEmpty O).length)
  simp only[pbk,bkb]
  have e2:bkm (pvo L s (x,y)).k (seg L (pvo L s (x,y)).f (pvo L s (x,y)).t) (s.extract (szt L x) (szt L x+(pvo L s (x,y)).z)) (pvs L s r).isEmpty O=blq L s (x,y) r.isEmpty O:=by
   have e3:(pvs L s r).isEmpty=r.isEmpty:=by cases r<;>rfl
   rw[e3];unfold blq;show bkm _ (seg L x y) (s.extract (szt L x) (szt L x+(szt L y - szt L x))) _ _=_
   rw[e];rfl
  rw[e2,show szt L x+(pvo L s (x,y)).z=szt L y from e,zaL _ h3]
def Pok(n:Nat)(s:ByteArray)(l:List Pv):Prop:=∀dn q td,l=dn++q::td→q.f≤q.t∧q.t≤n∧z3B dn+q.z≤s.size∧q.k≤2
theorem zau{L:List Tk}{s:ByteArray}:∀ {P:List (Nat×Nat)} {a b:Nat},Chn a P b→szt L a+z3B (pvs L s P)=szt L b
 |[],_,_,h=>by cases h;rfl
 |q::r,a,b,h=>by
  obtain⟨h1,h2,h3⟩:=h;have ih:=zau (L:=L) (s:=s) h3;have hz:=z0w L h2;show szt L a+((szt L q.2 - szt L q.1)+z3B (pvs L s r))=szt L b
  rw[h1];omega
theorem zg5{L:List Tk}{s:ByteArray}{P:List (Nat×Nat)}(h:Chn 0 P L.length)(hz:Tx.szs L=s.size):Pok L.length s (pvs L s P):=by
 intro dn q td e;have ht:=zau (L:=L) (s:=s) h;rw[z1Q,z2c qR,hz,e,z16] at ht;have hq:q∈pvs L s P:=by rw[e];simp
 obtain⟨p,hp,rfl⟩:=List.mem_map.1 hq;obtain⟨h1,h2⟩:=h.mem hp;have:z3B (pvo L s p::td)=(pvo L s p).z+z3B td:=rfl;exact⟨h1,h2,by omega,z53 _ _⟩
theorem z93{A:Option Addr}{c:Nat}{L:List Tk}{s:ByteArray}{pre:List Bk}{l:List Pv}{q:Pv}{o:Nat}{BL:List Bk}(h:pre++pbk A c L s (q::l) o=BL):
 (pre++[⟨q.k,if c=q.f then A else Option.map (fun x=>x.add (q.f*3)) A,q.t - q.f,c - q.f,seg L q.f q.t,s.extract o (o+q.z),l.isEmpty⟩])++pbk A c L s l (o+q.z)=BL:=by
 rw[qD];exact h
theorem z9w{BL pre r:List Bk}{N:Nat}(h:BL=pre++r)(hN:(bkb BL 0).length≤N):(bkb pre 0).length≤N:=by
 have:(bkb pre 0).length≤(bkb (pre++r) 0).length:=by
  clear hN h
  suffices h:∀ (l r:List Bk) (o:Nat),(bkb l o).length≤(bkb (l++r) o).length from h pre r 0
  intro l
  induction l with
  |nil=>intro r o;simp[bkb]
  |cons x l ih=>
   intro r o;simp only[List.cons_append,bkb,qA];have:=ih r (o+(bkm x.k x.L x.raw x.last o).length);omega
 rw[←h] at this;omega
end Go.Proofs.YtacelhaidcmbcaaGreatDoor.V
namespace Go.Proofs.YtacelhaidcmbcaaGreatDoor.V
open Go.Lib (hid)
open Go Go.RowKit M U
attribute [local go_sem] Oper.semAt_some
def AxB(n₁:Nat)(f:Bk→Nat→Act)(x:Bk)(a':Act)(W:World):Prop:=
 ∃Bx,n₁≤Bx∧W.heap[Bx]? =some (.cells #[.int .u8 x.k,.slice x.A x.n x.c,.string x.raw,.bool x.last] 56 (0,0))∧a'=f x Bx
theorem AxB.own{n₁:Nat}{f:Bk→Nat→Act}{x:Bk}{a':Act}:OwnFrom n₁ (fun(_:Unit) W=>AxB n₁ f x a' W):=fun _ W W' row hs hg hr=>by
 obtain⟨Bx,h1,h2,h3⟩:=hs;refine⟨Bx,h1,(hg.block Bx (qW.1 h2).1 (fun e=> ?_)).trans h2,h3⟩;obtain⟨_,o,ho,hc⟩:=hr Bx e.symm;rw[h2] at ho;cases ho
 cases hc
theorem z9g{W:World}{T:TypeId}{g:Nat}{a b c d:Value}(h:W.heap[g]? =some (.cells #[a,b,c,d] T (0,0))):W.cell? ⟨g,0,none⟩=some a∧W.cell? ⟨g,1,none⟩=some b∧W.cell? ⟨g,2,none⟩=some c∧W.cell? ⟨g,3,none⟩=some d:=by simp[World.cell?,h]
def Fit(most:Int)(pre:List Bk):Prop:=((((bkb pre 0).length+7) /8:Nat):Int)≤max 0 most
theorem z8s:∀ (l r:List Bk) (o:Nat),(bkb l o).length≤(bkb (l++r) o).length
 |[],r,o=>by simp[bkb]
 |x::l,r,o=>by
  simp only[List.cons_append,bkb,qA];have:=z8s l r (o+(bkm x.k x.L x.raw x.last o).length);omega
theorem zgH{most:Int}{l r:List Bk}(h:Fit most (l++r)):Fit most l:=by
 unfold Fit at h ⊢;have:=z8s l r 0;omega
theorem z8P(n gf:Nat)(lb:Array Value)(most:Int)(BL:List Bk)(w:World)(hn:2≤n)(hT:z5p w)(eg:∀args w,(callFunc gf args).run Tryz.prog w=.ok (.enter gf args) w)
 (hseq:zjj n Tryz.prog gf lb ziC (fun xs=>xs=BL) (fun _=>True) (fun pre=> ∃r,BL=pre++r) w)
 (hB:∀x∈BL,IsTks w x.A x.n x.L∧x.n≤100000∧x.raw.size≤200000∧x.k≤2∧(x.k≠0→∀t∈x.L,may t=true))
 (hlen:∀pre r,BL=pre++r→(bkb pre 0).length≤50000000):
 CallsIn Fence.wide n Tryz.prog 10 #[.func (.func gf) #[] lb,.int .i64 most] w fun e w'=>
  (Fit most BL→e=.returned (.tuple #[.string (z1P (nb (bkb BL 0)) (bkb BL 0).length),.int .i64 0])∧Below w.heap.size w w')∧
  (¬Fit most BL→e=.returned (.tuple #[.string ⟨#[]⟩,.int .i64 4])∧Below w.heap.size w w'):=by
 have hmf:∀ (fn:Fn) (first cap:Array Value) (w:World),(Instr.makeFunc fn first cap).run Tryz.prog w=.ok (.func fn first cap) w:=fun _ _ _ _=>rfl
 have eg2:∀ (args:Array Value) (w:World),(callFunc 19 args).run Tryz.prog w=.ok (.enter 19 args) w:=enters_of Tryz.func19 (by kernel_rfl) rfl;have HEg:=hid eg2;clear eg2;have HNew:=hid (fun(W':World)=>new_any (B:=W'.heap.size) most W' qR);refine z3S Tryz.func10 rfl ?_
 simp only[Tryz.ntmps10,List.size_toArray,qC,List.length_nil,Nat.reduceAdd,Nat.reduceSub,Array.replicate_succ,Array.replicate_zero,List.push_toArray,List.append_toArray,List.nil_append,List.cons_append];apply z2T
 refine z5s (n:=n) ?_
 gi_wp2;apply z2T
 refine z5s (n:=n) ?_
 gi_wp2;apply z2T
 refine z5s (n:=n) ?_
 have bw1:Below w.heap.size w (w.alloc (.cells #[.int .i64 0] 24)):=(Below.refl _ w).alloc qR _;have hE1:(w.alloc (.cells #[.int .i64 0] 24)).heap[w.heap.size]? =some (.cells #[.int .i64 0] 24 (0,0)):=new_at _ _;have hsz:(w.alloc (.cells #[.int .i64 0] 24)).heap.size=w.heap.size+1:=by simp
 obtain⟨w1,hw1⟩:∃w1,w.alloc (.cells #[.int .i64 0] 24)=w1:=⟨_,rfl⟩
 rw[hw1] at bw1 hE1 hsz;have HW1:=hid hw1;have HB1:=hid bw1;have HE1:=hid hE1;gi_wp2;refine⟨trivial,fun h=>(by cases h),?_⟩;clear hw1 bw1 hE1;refine(callsIn_wide.2 (HNew.out _)).mono ?_
 rintro e w3 ⟨rfl,k3,h3,z3⟩;rw[hsz] at h3 z3 ⊢;have K3:=hid k3;have H3:=hid h3;have Z3:=hid z3;clear k3 h3 z3;gi_wp2;apply z2T
 apply z2T
 refine z5s (n:=n) ?_
 gi_wp2;apply z9K
 have hz3:=Z3.out;have hM2:=new_at w3 (.cells #[.pointer (some ⟨w.heap.size+1,0,none⟩)] 53);have hk2:Kept NoB w1 (w3.alloc (.cells #[.pointer (some ⟨w.heap.size+1,0,none⟩)] 53)):=K3.out.alloc _;have hw2:Wt (w3.alloc (.cells #[.pointer (some ⟨w.heap.size+1,0,none⟩)] 53)) (w.heap.size+1) (w.heap.size+1) (fun j=>j=w.heap.size+1) (max 0 most) 0 0:=H3.out.keep ((Kept.refl NoB _).alloc _) (fun _ _ g=>g);have hs2:(w3.alloc (.cells #[.pointer (some ⟨w.heap.size+1,0,none⟩)] 53)).heap.size=w3.heap.size+1:=by simp
 obtain⟨w2,hw2'⟩:∃w2,w3.alloc (.cells #[.pointer (some ⟨w.heap.size+1,0,none⟩)] 53)=w2:=⟨_,rfl⟩
 rw[hw2'] at hM2 hk2 hw2 hs2 ⊢;obtain⟨p,hp⟩:∃p,w.heap.size+1=p:=⟨_,rfl⟩
 rw[hp] at hM2 hw2 hz3 hsz ⊢;have b2:Below w.heap.size w w2:=HB1.out.trans (hk2.below (by omega) (fun j g=>g.elim));have hE2:w2.heap[w.heap.size]? =some (.cells #[.int .i64 0] 24 (0,0)):=(hk2.block _ (by omega) (fun g=>g)).trans HE1.out;have hMs:w3.heap.size<w2.heap.size:=by omega
 have hps2:p<w2.heap.size:=by omega
 have hSz:w.heap.size≤w2.heap.size:=b2.size;obtain⟨M,hMe⟩:∃M,w3.heap.size=M:=⟨_,rfl⟩
 rw[hMe] at hM2 hMs hz3 ⊢;have HM2:=hid hM2;have HE2:=hid hE2;have HB2:=hid b2;have HW2:=hid hw2;have HSq:=hid hseq;clear HW1 HB1 HE1 K3 H3 Z3 hM2 hE2 b2 hw2 hk2 hs2 hw2' hMe hsz hseq HNew
 -- what a round leaves as it is
 have HLow:=hid (fun(W:World) (hk:Kept (Rd p w2.heap.size) w2 W)=>(show Below w.heap.size w W∧W.heap[w.heap.size]? =some (.cells #[.int .i64 0] 24 (0,0))∧W.heap[M]? =some (.cells #[.pointer (some ⟨p,0,none⟩)] 53 (0,0))∧w2.heap.size≤W.heap.size from by
  have no:∀j,j<w2.heap.size→j≠p→¬Rd p w2.heap.size j:=fun j h1 h2 g=>by rcases g with g|g<;>omega
  refine⟨HB2.out.trans (hk.below hSz (fun j g=>by rcases g with g|g<;>omega)),(hk.block _ (by omega) (no _ (by omega) (by omega))).trans HE2.out,(hk.block _ hMs (no _ hMs (by omega))).trans HM2.out,hk.size⟩))
 refine z9J (n:=n) (gf:=gf) (lb:=lb) rfl eg HSq.out HB2.out (fun _=>rfl)
  (fun ps W=>z6m w2 w2.heap.size p p (max 0 most) ps W∧(ps.1≠[]→Fit most ps.1))
  (fun ch pre W=>ch=[{v:=.iface 52 (.agg #[.int .i64 4]),recovered:=false}]∧¬Fit most pre∧Kept (Rd p w2.heap.size) w2 W)
  (fun s W W' row hs hg hr=>⟨z6m.own s W W' row hs.1 hg hr,hs.2⟩) (fun ch s W W' row hs hg hr=>⟨hs.1,hs.2.1,hs.2.2.grown hg (fun r e=> .inl (.inr (hr r e).1))⟩)
  (fun pre T W h j hj=>⟨by have g:Rd p w2.heap.size j:=h.1.rd j hj;rcases g with g|g<;>omega,h.1.lt hj⟩)
  _ ⟨z6m.start HW2.out (fun j hj=> .inl hj),fun h=>absurd rfl h⟩
  (AxB w2.heap.size (fun x Bx=> {tmps:= #[.func (.func gf) #[] lb,.int .i64 most,undef,undef,.string ⟨#[]⟩,.pointer (some ⟨w.heap.size,0,none⟩),.pointer (some ⟨M,0,none⟩),.pointer (some ⟨Bx,0,none⟩),
   .func (.func 19) #[] #[.pointer (some ⟨w.heap.size,0,none⟩)],.int .i64 most,.pointer (some ⟨p,0,none⟩),.func (.func gf) #[] lb,.agg #[.int .u8 x.k,.slice x.A x.n x.c,.string x.raw,.bool x.last],
   undef,undef,undef,undef,undef],defers:=[]}))
  (fun x a'=>AxB.own) ?assign ?body ?done ?panic
 case assign=>
  rintro l2 pre T y Wa K hmid hK;have HM:=hid hmid;have HK:=hid (fun(a':Act) (W':World) (h1:KeepsFrom w2.heap.size Wa W') (h2:Kept T Wa W') (h3:z6m w2 w2.heap.size p p (max 0 most) (pre,T) W'∧(pre≠[]→Fit most pre)) h4=>hK a' W' h1 h2 h3 h4);clear hK hmid;unfold ziC;gi_wp2;exact HK.out _ _ ((KeepsOthers.alloc _ _).from _) ((Kept.refl _ _).alloc _) ⟨z6m.own.alloc _ HM.out.1,HM.out.2⟩ ⟨Wa.heap.size,HM.out.1.kept.size,new_at _ _,rfl⟩
 case body=>
  rintro l2 pre T y a' Wb hl2 ⟨rr,hr⟩ ⟨hst,hft⟩ ⟨Bx,hBx,hxc,rfl⟩ ⟨r,hpre⟩;obtain⟨hb,c2,c3,c4⟩:=HLow.out Wb hst.kept;obtain⟨hx1,hx2,hx3,hx4,hx5⟩:=hB y (by rw[hpre];simp);have hlp:=hlen pre (y::r) (by rw[hpre];simp);have HP:=hid (hst.round y (by omega) c4 (fun w' b=>hT.keep (hb.trans (b.mono (by omega)))) (fun w' b=>hx1.below (hb.trans (b.mono (by omega)))) hlp hx2 hx3 hx4 hx5);obtain⟨x0,x1,x2,x3⟩:=z9g hxc;have m0:=one_cell c3;have HK:=hid hst.kept;clear hx1 hx2 hx3 hx4 hx5 hlp hst hpre hr hxc c2 c3;by_cases hf:Fit most (pre++[y])
  · have HF:=hid hf
    clear hf;left;gi_wp2;refine⟨trivial,fun h=>(by cases h),?_⟩;refine(callsIn_wide.2 HP.out).mono ?_
    rintro e W' ⟨q,_⟩;obtain⟨rfl,q1⟩:=q HF.out;have Q1:=hid q1;clear q q1;gi_wp2;obtain⟨z1,T',z2,z3,z4⟩:=Q1.out;exact⟨z1,z2,T',⟨z3,HF.out⟩,z4⟩
  · have HF:=hid hf
    clear hf;right;gi_wp2;refine⟨trivial,fun h=>(by cases h),?_⟩;refine(callsIn_wide.2 HP.out).mono ?_
    rintro e W' ⟨_,q⟩;obtain⟨rfl,q2,q3⟩:=q (by have:=HF.out;unfold Fit at this;omega);have Q2:=hid q2;have Q4:=hid (ziW HK.out q3);clear q q2 q3;gi_wp2;exact⟨Q2.out,HF.out,Q4.out⟩
 case done=>
  rintro D ys T W4 hD rfl ⟨hst,hft⟩ hK;obtain⟨hb4,c2,c3,c4⟩:=HLow.out W4 hst.kept
  have hfit:Fit most ys:=by
   by_cases h:ys=[]
   · subst h
     show(((0+7) /8:Nat):Int)≤max 0 most
     omega
   · exact hft h
  obtain⟨hwt,hSr,hkp⟩:=hst;simp only at hwt;have HText:=hid (Go.Proofs.YtacelhaidcmbcaaGreatDoor.text_any hwt (by have:=hlen ys [] (by simp);omega));have m0:=one_cell c3;refine⟨.inl rfl,?_⟩;refine z5s (n:=n) ?_
  gi_wp2;refine⟨trivial,fun h=>(by cases h),?_⟩;refine(callsIn_wide.2 HText.out).mono ?_
  rintro e w5 ⟨rfl,k5⟩;have h5:=k5.size;have f2:=(k5.block w.heap.size (by omega) (fun g=>g)).trans c2;have fD:=(k5.block D (qW.1 hK).1 (fun g=>g)).trans hK;obtain⟨TX,hTX⟩:∃TX,z1P (nb (bkb ys 0)) (bkb ys 0).length=TX:=⟨_,rfl⟩
  rw[hTX];have g3:=one_cell f2;have g4:=one_free f2;have f6:=one_set f2 (.int .i64 0);have fD2:=(za4 (W:=w5) (g:=w.heap.size) (k:=D) (.int .i64 0) (by omega)).trans fD;have F6:=hid f6;have FD2:=hid fD2;have K5:=hid k5;clear f2 fD f6 fD2 k5 hK;gi_wp2;have hb6:Below w.heap.size w (w5.setCell ⟨w.heap.size,0,none⟩ (.int .i64 0)):=(hb4.trans (K5.out.below hb4.size (fun j g=>g.elim))).setCell qR _;obtain⟨W6,hW6⟩:∃W6,w5.setCell ⟨w.heap.size,0,none⟩ (.int .i64 0)=W6:=⟨_,rfl⟩
  rw[hW6] at F6 FD2 hb6 ⊢;have e2:=(World.putObj_heap_other (w:=W6) (o:=.deferred none) (show w.heap.size≠D by omega)).trans F6.out;have q2:=one_cell e2;refine⟨by simp,.inl ⟨D,_,rfl,run_takeDeferred FD2.out,?_⟩⟩;refine⟨by simp,.inr ⟨fun h=>(by cases h),_,_,_,_,rfl,by simp[invoke,go_sem,HEg.out],fun _ _=>trivial,(z9q (n - 1) w.heap.size _).mono ?_⟩⟩;rintro e u' w'' ⟨rfl,rfl,rfl⟩;have hb7:Below w.heap.size w (W6.putObj D (.deferred none)):=hb6.grown (grownBy_putObj' W6 D _) hb6.size (fun k e=>by cases e;omega);simp[LeavesInM,LeavesIn,settle,results,Tryz.results10,go_sem,q2];exact⟨fun _=>⟨hTX.symm,hb7⟩,hfit⟩
 case panic=>
  rintro D ch pre W4 hD ⟨r,hpre⟩ ⟨rfl,hnf,hk⟩ hK;obtain⟨hb4,c2,c3,c4⟩:=HLow.out W4 hk;refine⟨.inr ⟨_,rfl⟩,?_⟩;have e2:=(World.putObj_heap_other (w:=W4) (o:=.deferred none) (show w.heap.size≠D by omega)).trans c2;refine⟨by simp,.inl ⟨D,_,rfl,run_takeDeferred hK,?_⟩⟩;refine⟨by simp,.inr ⟨fun h=>(by cases h),_,_,_,_,rfl,?_,fun _ _=>trivial,(z7b (n - 1) w.heap.size _ [] _ (one_cell e2) (one_free e2)).mono ?_⟩⟩
  · simp[invoke,go_sem,HEg.out]
  · rintro e u' w'' ⟨rfl,rfl,rfl⟩
    have a2:=old_at (.cells #[.int .i64 4] 52) e2;have a6:=one_set a2 (.int .i64 4);have q2:=one_cell a6;have hnb:¬Fit most BL:=fun h=>hnf (by rw[hpre] at h;exact zgH h)
    have hbb:Below w.heap.size w (((W4.putObj D (.deferred none)).alloc (.cells #[.int .i64 4] 52)).setCell ⟨w.heap.size,0,none⟩ (.int .i64 4)):=
     ((hb4.grown (grownBy_putObj' W4 D _) hb4.size (fun k e=>by cases e;omega)).alloc (by simp;omega) _).setCell qR _
    simp[LeavesInM,LeavesIn,settle,results,Tryz.results10,go_sem,q2];exact⟨hnb,fun _=>hbb⟩
end Go.Proofs.YtacelhaidcmbcaaGreatDoor.V
namespace Go.Proofs.YtacelhaidcmbcaaGreatDoor.V
open Go.Lib (hid)
open Go Go.RowKit M U
attribute [local go_sem] Oper.semAt_some
theorem zce(m:Nat)(K:Act→World→Prop)(y u4 u8 s9 s10 s11 s12 s13 s14 s15 s16 u17 u18 u19 u20 u21 u22 u23 u24 u25 u26 u27 u28 u29 u30 u31 u32 u33 u34 u35 u36 u37 u38 u39 u40 u41 u42 u43:Value)(Bs Bp Bt G j N f t z k n c g cp r:Nat)(A X:Option Addr)(R RA:ByteArray)(la:Bool)(w1:World)
 (q0:w1.cell? ⟨G,0,none⟩=some (.int .i64 f)) (q1:w1.cell? ⟨G,1,none⟩=some (.int .i64 t)) (q2:w1.cell? ⟨G,2,none⟩=some (.int .i64 z)) (q3:w1.cell? ⟨G,3,none⟩=some (.int .u8 k))
 (t1:w1.cell? ⟨Bt,0,none⟩=some (.slice A n c)) (p1:w1.cell? ⟨Bp,0,none⟩=some (.slice (some ⟨g,0,none⟩) N cp)) (hft:f≤t) (htc:t≤c) (hfc:f≤c) (hX:(if c=f then A else Option.map (fun x=>x.add (f*3)) A)=X) (hRs:R.size=r) (hzr:z≤r) (hr7:r≤1000000) (hR1:R.extract 0 z=RA)
 (hN:N≤1000) (hnc:n≤c) (hn:n≤1000000) (htn:t≤n) (e1:((j:Int)==(N:Int) - 1)=la)
 (hK:K {tmps:= #[y,.pointer (some ⟨Bs,0,none⟩),.pointer (some ⟨Bp,0,none⟩),.pointer (some ⟨Bt,0,none⟩),u4,.string R,.int .i64 j,.pointer (some ⟨G,0,none⟩),.pointer (some ⟨w1.heap.size,0,none⟩),s9,s10,s11,s12,s13,s14,s15,s16,
  .pointer (some ⟨G,3,none⟩),.int .u8 k,.slice A n c,.pointer (some ⟨G,0,none⟩),.int .i64 f,.pointer (some ⟨G,1,none⟩),.int .i64 t,.slice X (t - f) (c - f),.string R,.pointer (some ⟨G,2,none⟩),.int .i64 z,.string RA,.int .i64 j,.slice (some ⟨g,0,none⟩) N cp,.int .i64 N,.int .i64 ((N:Int) - 1),.bool la,
  .agg #[.int .u8 k,.slice X (t - f) (c - f),.string RA,.bool la],u35,u36,u37,u38,u39,u40,u41,u42,u43],defers:=[]} (w1.alloc (.cells #[.int .u8 k,.slice X (t - f) (c - f),.string RA,.bool la] 56)).drew):
 Code.wpIn Fence.wide m Tryz.prog (Code.region 4 #[
  {dst:=some 17,op:=Op.fieldAddr 46 (Operand.tmp 7) 3,type:=0,pos:= "deflate.go:70",after:= #[],guard:=none}, 
  {dst:=some 18,op:=Op.load 5 (Operand.tmp 17),type:= 5,pos:= "deflate.go:70",after:= #[{on:=0,ground:=Ground.data}],guard:=none}, 
  {dst:=some 19,op:=Op.load 29 (Operand.tmp 3),type:= 29,pos:= "deflate.go:70",after:= #[],guard:=none}, 
  {dst:=some 20,op:=Op.fieldAddr 46 (Operand.tmp 7) 0,type:=0,pos:= "deflate.go:70",after:= #[],guard:=none}, 
  {dst:=some 21,op:=Op.load 3 (Operand.tmp 20),type:= 3,pos:= "deflate.go:70",after:= #[{on:=3,ground:=Ground.data}],guard:=none}, 
  {dst:=some 22,op:=Op.fieldAddr 46 (Operand.tmp 7) 1,type:=0,pos:= "deflate.go:70",after:= #[],guard:=none}, 
  {dst:=some 23,op:=Op.load 3 (Operand.tmp 22),type:= 3,pos:= "deflate.go:70",after:= #[{on:=5,ground:=Ground.data}],guard:=none}, 
  {dst:=some 24,op:=Op.slice 29 (Operand.tmp 19) (some (Operand.tmp 21)) (some (Operand.tmp 23)) none,type:= 29,pos:= "deflate.go:70",after:= #[{on:=2,ground:=Ground.data},{on:=4,ground:=Ground.data},{on:=6,ground:=Ground.data}],guard:=none}, 
  {dst:=some 25,op:=Op.move (Operand.tmp 5),type:= 9,pos:= "deflate.go:70",after:= #[],guard:=none}, 
  {dst:=some 26,op:=Op.fieldAddr 46 (Operand.tmp 7) 2,type:=0,pos:= "deflate.go:70",after:= #[],guard:=none}, 
  {dst:=some 27,op:=Op.load 3 (Operand.tmp 26),type:= 3,pos:= "deflate.go:70",after:= #[{on:=9,ground:=Ground.data}],guard:=none}, 
  {dst:=some 28,op:=Op.slice 9 (Operand.tmp 25) none (some (Operand.tmp 27)) none,type:= 9,pos:= "deflate.go:70",after:= #[{on:=8,ground:=Ground.data},{on:=10,ground:=Ground.data}],guard:=none}, 
  {dst:=some 29,op:=Op.move (Operand.tmp 6),type:= 3,pos:= "deflate.go:70",after:= #[],guard:=none}, 
  {dst:=some 30,op:=Op.load 30 (Operand.tmp 2),type:= 30,pos:= "deflate.go:70",after:= #[],guard:=none}, 
  {dst:=some 31,op:=Op.call {callee:=Callee.builtin Builtin.len,args:= #[Operand.tmp 30],argTypes:= #[30]},type:= 3,pos:= "deflate.go:70",after:= #[{on:=13,ground:=Ground.data}],guard:=none}, 
  {dst:=some 32,op:=Op.binOp BinOp.sub 3 (Operand.tmp 31) (Operand.const (Value.int IntKind.i64 1)) 3,type:= 3,pos:= "deflate.go:70",after:= #[{on:=14,ground:=Ground.data}],guard:=none}, 
  {dst:=some 33,op:=Op.binOp BinOp.eql 3 (Operand.tmp 29) (Operand.tmp 32) 3,type:= 4,pos:= "deflate.go:70",after:= #[{on:=12,ground:=Ground.data},{on:=15,ground:=Ground.data}],guard:=none}, 
  {dst:=some 34,op:=Op.build 56 #[(0,Operand.tmp 18),(1,Operand.tmp 24),(2,Operand.tmp 28),(3,Operand.tmp 33)],type:= 56,pos:= "deflate.go:70",after:= #[{on:=1,ground:=Ground.data},{on:=7,ground:=Ground.data},{on:=11,ground:=Ground.data},{on:=16,ground:=Ground.data}],guard:=none}, 
  {dst:=some 8,op:=Op.alloc 56,type:=0,pos:= "deflate.go:70",after:= #[],guard:=none}, 
  {dst:=none,op:=Op.store 56 (Operand.tmp 8) (Operand.tmp 34),type:=0,pos:= "deflate.go:70",after:= #[{on:=18,ground:=Ground.data},{on:=17,ground:=Ground.data},{on:=0,ground:=Ground.phase},{on:=1,ground:=Ground.phase},{on:=2,ground:=Ground.phase},{on:=3,ground:=Ground.phase},{on:=4,ground:=Ground.phase},{on:=5,ground:=Ground.phase},{on:=6,ground:=Ground.phase},{on:=7,ground:=Ground.phase},{on:=8,ground:=Ground.phase},{on:=9,ground:=Ground.phase},{on:=10,ground:=Ground.phase},{on:=11,ground:=Ground.phase},{on:=12,ground:=Ground.phase},{on:=13,ground:=Ground.phase},{on:=14,ground:=Ground.phase},{on:=15,ground:=Ground.phase},{on:=16,ground:=Ground.phase},{on:=17,ground:=Ground.phase},{on:=18,ground:=Ground.phase}],guard:=none}] true) (Exit.then K (fun _ _ _=>False))
  {tmps:= #[y,.pointer (some ⟨Bs,0,none⟩),.pointer (some ⟨Bp,0,none⟩),.pointer (some ⟨Bt,0,none⟩),u4,.string R,.int .i64 j,.pointer (some ⟨G,0,none⟩),u8,s9,s10,s11,s12,s13,s14,s15,s16,u17,u18,u19,u20,u21,u22,u23,u24,u25,u26,u27,u28,u29,u30,u31,u32,u33,u34,u35,u36,u37,u38,u39,u40,u41,u42,u43],defers:=[]} w1:=by
 have HK:=hid hK;clear hK
 have far:∀ {a:Addr} {v:Value},w1.cell? a=some v→(w1.alloc (.cells #[.int .u8 0,.slice none 0 0,.string ⟨#[]⟩,.bool false] 56)).drew.cell? a=some v:=fun {a v} h=>by
  have:=qB h;exact(((Below.refl w1.heap.size w1).alloc qR _).cell (p:=a) this).trans h
 have t2:=far t1;have p2:=far p1;have r0:=far q0;have r1:=far q1;have r2:=far q2;have r3:=far q3;have l1:Bt<w1.heap.size:=qB t1;have l2:Bp<w1.heap.size:=qB p1;have l3:G<w1.heap.size:=qB q0;clear far;dsimp only
 gi_big_region
 exact HK.out
end Go.Proofs.YtacelhaidcmbcaaGreatDoor.V
namespace Go.Proofs.YtacelhaidcmbcaaGreatDoor.V
open Go.Lib (hid)
open Go Go.RowKit M U
attribute [local go_sem] Oper.semAt_some
theorem z9b{S:Nat→Prop}{w w':World}(b:Below w.heap.size w w'):Kept S w w':=⟨b.os,b.tape,b.output,b.size,fun k hk _=>b.block k hk⟩
theorem z9v(m l Bs Bp Bt n₁:Nat)(A:Option Addr)(n c g cp:Nat)(L:List Tk)(s:ByteArray)(PL:List Pv)(BL:List Bk)(hm:1≤m)(hnc:n≤c)(hn:n≤1000000)(hs:s.size≤1000000)(hPl:PL.length≤1000)(hok:Pok n s PL)(hBL:pbk A c L s PL 0=BL)
 (hBs:Bs<n₁) (hBp:Bp<n₁) (hBt:Bt<n₁) (hg:g<n₁) (W0:World)
 (J:List Bk×(Nat→Prop)→World→Prop) (Jx:List Bk→World→Prop) (Jp:List PanicEntry→List Bk→World→Prop) (hJ:AbidesFrom W0.heap.size J) (hJT:∀pre T W1,J (pre,T) W1→∀j,T j→n₁≤j∧j<W1.heap.size)
 (hY:∀pre T x W,J (pre,T) W→(∃r,BL=pre++[x]++r)→YieldAt Fence.wide (m - 1) Tryz.prog l (ziC x) W fun e W'=>
  (e=.returned (.bool true)∧∃T',J (pre++[x],T') W'∧Kept T W W'∧∀j,T' j→T j∨W.heap.size≤j)∨(e=.returned (.bool false)∧Jx (pre++[x]) W')∨(∃ch,e=.panicked ch∧Jp ch (pre++[x]) W'))
 (cS:W0.cell? ⟨Bs,0,none⟩=some (.string s)) (cP:W0.cell? ⟨Bp,0,none⟩=some (.slice (some ⟨g,0,none⟩) PL.length cp)) (cT:W0.cell? ⟨Bt,0,none⟩=some (.slice A n c))
 (cPL:∀i q,PL[i]? =some q→W0.cell? ⟨g,i*4,none⟩=some (.int .i64 q.f)∧W0.cell? ⟨g,i*4+1,none⟩=some (.int .i64 q.t)∧W0.cell? ⟨g,i*4+2,none⟩=some (.int .i64 q.z)∧W0.cell? ⟨g,i*4+3,none⟩=some (.int .u8 q.k))
 (h0:∃T,J ([],T) W0):
 CallsIn Fence.wide m Tryz.prog 23 #[.func (.yield l) #[] #[],.pointer (some ⟨Bs,0,none⟩),.pointer (some ⟨Bp,0,none⟩),.pointer (some ⟨Bt,0,none⟩)] W0 fun e W'=>
  (∃v,e=.returned v∧((∃xs,xs=BL∧∃T,J (xs,T) W')∨(∃pre:List Bk,True∧Jx pre W')))∨(∃ch pre,e=.panicked ch∧(∃r,BL=pre++r)∧Jp ch pre W'):=by
 have HJT:=hid hJT;have no:∀ {j},j<n₁→¬n₁≤j:=fun h=>by omega
 have noP:=no hBp;have noT:=no hBt;have noG:=no hg;have HOk:=hid hok;have HPL:=hid cPL;have HY:=hid hY;have HT:=hid cT;have HPc:=hid cP;obtain⟨N,hN⟩:∃N,PL.length=N:=⟨_,rfl⟩
 have HN:=hid hN;rw[hN] at cP HPc hPl;clear hok cPL hY cT no hN hJT;refine callsIn_of_wp Tryz.func23 rfl trivial ?_ rfl;simp only[Tryz.ntmps23,List.size_toArray,qC,List.length_nil,Nat.reduceAdd,Nat.reduceSub,Array.replicate_succ,Array.replicate_zero,List.push_toArray,List.append_toArray,List.nil_append,List.cons_append];gi_wp2
 gi_loopw [5,12] (fun r i wr=> ∃ (j:Nat) (dn td:List Pv) (pre:List Bk),PL=dn++td∧dn.length=j∧i=.int .i64 j∧r=.string (s.extract (z3B dn) s.size)∧pre++pbk A c L s td (z3B dn)=BL∧(∃T,J (pre,T) wr)∧Kept (fun j=>n₁≤j) W0 wr)
  (fun _ i _=>N - (intOf i).toNat)
 case atStart=>exact⟨0,[],PL,[],rfl,rfl,rfl,by rw[show z3B []=0 from rfl,ByteArray.extract_zero_size],hBL,h0,Kept.refl _ _⟩
 case round=>
  obtain⟨j,dn,td,pre,hp,hj,rfl,rfl,hb,⟨T,hJs⟩,hkp⟩:=hrel;have HHb:=hid hb;have HHp:=hid hp;have HK:=hid hkp;have HJq:=hid (fun W' (b:Below wr.heap.size wr W')=>hJ (pre,T) wr W' none hJs ⟨b.os,b.tape,b.output,b.size,fun k hk _=>b.block k hk⟩ (fun r e=>by cases e));cases td with
  |nil=>
   have e0:j=N:=by rw[←hj,←HN.out,hp,List.append_nil]
   subst e0;have d1:decide ((j:Int)<(j:Int))=false:=qF (by omega);have d1':decide (j<j)=false:=qF (by omega);clear hb hp hkp hj;gi_wp2;go_end0;exact .inl ⟨_,rfl,.inl ⟨_,rfl,by have:=HHb.out;simp only[pbk,List.append_nil] at this;subst this;exact⟨T,hJs⟩⟩⟩
  |cons q td=>
   have hlt:j<N:=by rw[←hj,←HN.out,hp,qA,qC];omega
   have hq:PL[j]? =some q:=by rw[hp,←hj];simp
   obtain⟨o1,o2,o3,o4⟩:=HOk.out dn q td hp;obtain⟨a0,a1,a2,a3⟩:=HPL.out j q hq;have n0:=hkp.cell a0 noG;have n1:=hkp.cell a1 noG;have n2:=hkp.cell a2 noG;have n3:=hkp.cell a3 noG;clear a0 a1 a2 a3;have t0:=hkp.cell HT.out noT;have p0:=hkp.cell HPc.out noP
   have hlast:td.isEmpty=decide (j+1=N):=by
    have e:N=j+1+td.length:=by rw[←HN.out,hp,qA,qC,hj];omega
    cases td with
    |nil=>exact(q9T (by simpa using e.symm)).symm
    |cons x td=>exact(qF (by rw[e,qC];omega)).symm
   obtain⟨f,t,z,k⟩:=q;simp only at o1 o2 o3 o4 n0 n1 n2 n3;have HNx:=hid (z93 HHb.out);have HZt:=hid (show z3B (dn++[⟨f,t,z,k⟩])=z3B dn+z by rw[z16];rfl);obtain⟨o,ho⟩:∃o,z3B dn=o:=⟨_,rfl⟩
   rw[ho] at HNx HZt o3 ⊢;simp only at HNx;rw[hlast] at HNx;obtain⟨X,hX⟩:∃X,(if c=f then A else Option.map (fun x=>x.add (f*3)) A)=X:=⟨_,rfl⟩
   rw[hX] at HNx;obtain⟨R,hR⟩:∃R,s.extract o s.size=R:=⟨_,rfl⟩
   have hRs:R.size=s.size - o:=by rw[←hR,ByteArray.size_extract];omega
   obtain⟨r,hr⟩:∃r,s.size - o=r:=⟨_,rfl⟩
   rw[hr] at hRs;have hR1:R.extract 0 z=s.extract o (o+z):=by rw[←hR,ByteArray.extract_extract];congr 1<;>omega
   have hR2:R.extract z r=s.extract (o+z) s.size:=by rw[←hR,ByteArray.extract_extract];congr 1<;>omega
   obtain⟨RA,hRA⟩:∃RA,s.extract o (o+z)=RA:=⟨_,rfl⟩
   rw[hRA] at HNx hR1;rw[hR];have hzr:z≤r:=by omega
   have hr7:r≤1000000:=by omega
   have htc:t≤c:=by omega
   have hfc:f≤c:=by omega
   have d1:decide ((j:Int)<(N:Int))=true:=q9T (by omega);have d1':decide (j<N)=true:=q9T hlt;have ix:(j:Int).toNat<N:=by omega
   have e1:((j:Int)==(N:Int) - 1)=decide (j+1=N):=by
    by_cases h:j+1=N
    · rw[q9T h,beq_iff_eq];omega
    · rw[qF h,qN];omega
   obtain⟨la,hla⟩:∃la,decide (j+1=N)=la:=⟨_,rfl⟩
   rw[hla] at e1 HNx;have HR2:=hid hR2;clear hb hp hkp hq hJs hlast hR hr ho hRA hla hR2;gi_wp2;have b1:Below wr.heap.size wr (wr.alloc (.cells #[.int .i64 f,.int .i64 t,.int .i64 z,.int .u8 k] 46)):=qL;have hP1:=Hb.new wr 46 #[.int .i64 f,.int .i64 t,.int .i64 z,.int .u8 k];have hz1:(wr.alloc (.cells #[.int .i64 f,.int .i64 t,.int .i64 z,.int .u8 k] 46)).heap.size=wr.heap.size+1:=by simp
   generalize wr.alloc (.cells #[.int .i64 f,.int .i64 t,.int .i64 z,.int .u8 k] 46)=w1 at b1 hP1 hz1 ⊢;obtain⟨q0,q1,q2,q3⟩:=hP1.cells4;have t1:w1.cell? ⟨Bt,0,none⟩=some (.slice A n c):=(b1.cell (p:=⟨Bt,0,none⟩) (qB t0)).trans t0;have p1:w1.cell? ⟨Bp,0,none⟩=some (.slice (some ⟨g,0,none⟩) N cp):=(b1.cell (p:=⟨Bp,0,none⟩) (qB p0)).trans p0;have HB1:=hid b1;have HP1:=hid hP1;clear b1 hP1 t0 p0 n0 n1 n2 n3;refine wpIn_mono (zce m _ _ _ _ _ _ _ _ _ _ _ _ _ _ _ _ _ _ _ _ _ _ _ _ _ _ _ _ _ _ _ _ _ _ _ _ _ _ _ Bs Bp Bt wr.heap.size j N f t z k n c g cp r A X R RA la w1 q0 q1 q2 q3 t1 p1 o1 htc hfc hX hRs hzr hr7 hR1 hPl hnc hn o2 e1 ?_) (fun e a w h=>by cases e<;>first|exact h|exact h.elim);rw[hz1];have b2:Below wr.heap.size wr (w1.alloc (.cells #[.int .u8 k,.slice X (t - f) (c - f),.string RA,.bool la] 56)).drew:=(HB1.out.alloc HB1.out.size _).trans (Below.refl _ _).drew;have hP2:=(HP1.out.alloc (.cells #[.int .u8 k,.slice X (t - f) (c - f),.string RA,.bool la] 56)).drew;have hB2:=(Hb.new w1 56 #[.int .u8 k,.slice X (t - f) (c - f),.string RA,.bool la]).drew;rw[hz1] at hB2;generalize (w1.alloc (.cells #[.int .u8 k,.slice X (t - f) (c - f),.string RA,.bool la] 56)).drew=w2 at b2 hP2 hB2 ⊢;obtain⟨x0,x1,x2,x3⟩:=hB2.cells4;obtain⟨fn,tmps,assign,body,hy,hRd⟩:=HY.out pre T ⟨k,X,t - f,c - f,seg L f t,RA,la⟩ w2 (HJq.out w2 b2) ⟨_,HNx.out.symm⟩;unfold ziC at hy;dsimp only at hy;have HTl:=hid (HJT.out pre T wr (HJq.out wr (Below.refl _ _)));have HP2:=hid hP2;have HB2:=hid b2;clear hP2 b2 t1 p1 q0 q1 q2 q3 hz1 e1 hX hR1;gi_wp2;refine hRd.mono ?_
   clear hy hRd x0 x1 x2 x3 hB2;rintro e W3 (⟨rfl,T',hJ3,hk3,hT3⟩|⟨rfl,hJx3⟩|⟨ch,rfl,hJp3⟩)
   · have hP3:=HP2.out.kept hk3 (fun h=>by have:=(HTl.out _ h).2;omega)
     obtain⟨q0,q1,q2,q3⟩:=hP3.cells4;have HK3:=hid (HK.out.trans ((z9b HB2.out).trans (hk3.mono fun j hj=>(HTl.out j hj).1) fun j hj=> .inl hj) fun j hj=> .inl hj);have HJ3:=hid hJ3;clear hk3 hJ3 hT3 hP3 q0 q1 q3;gi_wp2;go_roundw
     case rel=>exact⟨j+1,dn++[⟨f,t,z,k⟩],td,pre++[⟨k,X,t - f,c - f,seg L f t,RA,la⟩],by rw[qD];exact HHp.out,by rw[qA,hj];rfl,by go_num,by rw[HZt.out,←HR2.out],by rw[HZt.out];exact HNx.out,⟨T',HJ3.out⟩,HK3.out⟩
     case measure=>(simp[intOf];try omega)
   · gi_wp2
     refine bodyPost_ret (results_none rfl _ _ _) rfl ?_
     exact .inl ⟨_,rfl,.inr ⟨_,trivial,hJx3⟩⟩
   · gi_wp2
     exact⟨rfl,.inr ⟨_,_,rfl,⟨_,HNx.out.symm⟩,hJp3⟩⟩
end Go.Proofs.YtacelhaidcmbcaaGreatDoor.V
namespace Go.Proofs.YtacelhaidcmbcaaGreatDoor.V
open Go.Lib (hid)
open Go Go.RowKit M U
def Pcs(w:World)(g:Nat)(l:List Pv):Prop:=g<w.heap.size∧∀i q,l[i]? =some q→w.cell? ⟨g,i*4,none⟩=some (.int .i64 q.f)∧w.cell? ⟨g,i*4+1,none⟩=some (.int .i64 q.t)∧w.cell? ⟨g,i*4+2,none⟩=some (.int .i64 q.z)∧w.cell? ⟨g,i*4+3,none⟩=some (.int .u8 q.k)
theorem Pcs.below{w w':World}{g:Nat}{l:List Pv}(h:Pcs w g l)(hb:Below w.heap.size w w'):Pcs w' g l:=
 ⟨Nat.lt_of_lt_of_le h.1 hb.size,fun i q hq=>by
  obtain⟨a,b,c,d⟩:=h.2 i q hq;exact⟨(hb.cell (p:=⟨g,i*4,none⟩) h.1).trans a,(hb.cell (p:=⟨g,i*4+1,none⟩) h.1).trans b,(hb.cell (p:=⟨g,i*4+2,none⟩) h.1).trans c,(hb.cell (p:=⟨g,i*4+3,none⟩) h.1).trans d⟩⟩
theorem Pcs.of_owp{w:World}{B:Nat}{v:Value}{l:List Pv}(h:Owp B w v l)(h0:0<l.length):∃g c,v=.slice (some ⟨g,0,none⟩) l.length c∧Pcs w g l:=by
 obtain⟨g,c,rfl,_⟩:=h.form h0;exact⟨g,c,rfl,(h.lt g rfl).2,fun i q hq=>h.cell rfl hq⟩
noncomputable def dtl(d t:ByteArray)(k:Nat):List Tk:=if k=0 then[] else dtk d t k
noncomputable def dpl(d t:ByteArray)(k:Nat):List Pv:=if k=0 then[⟨0,0,t.size,0⟩] else pvs (dtk d t k) t (pts (dtk d t k) t)
theorem z5a{d t:ByteArray}{k:Nat}(h0:k≠0):∀x∈dtk d t k,may x=true:=fun x hx=>by
 unfold dtk at hx;rw[if_neg h0] at hx;exact(Px.G_may _ _ _ _ (fun h=>absurd rfl h) x hx).1
theorem zgK(d t:ByteArray)(k:Nat):∀x∈dtl d t k,may x=true:=fun x hx=>by
 unfold dtl at hx;by_cases h0:k=0
 · rw[if_pos h0] at hx;exact absurd hx (by simp)
 · rw[if_neg h0] at hx;exact z5a h0 x hx
theorem zbG(d t:ByteArray)(k:Nat):Chn 0 (pts (dtk d t k) t) (dtk d t k).length:=zaz _ _
theorem zf1(d t:ByteArray)(k:Nat):Pok (dtl d t k).length t (dpl d t k):=by
 unfold dtl dpl;by_cases h0:k=0
 · rw[if_pos h0,if_pos h0]
   intro dn q td e;cases dn with
   |nil=>simp at e;obtain⟨rfl,rfl⟩:=e;exact⟨Nat.le_refl 0,Nat.le_refl 0,by show 0+t.size≤t.size;omega,Nat.zero_le 2⟩
   |cons x dn=>simp at e
 · rw[if_neg h0,if_neg h0]
   exact zg5 (zbG d t k) (z2P d t k)
theorem z73(d t:ByteArray)(k:Nat)(ht:t.size≤100000):0<(dpl d t k).length∧(dpl d t k).length≤1000:=by
 unfold dpl;by_cases h0:k=0
 · rw[if_pos h0];exact⟨by simp,by simp⟩
 · rw[if_neg h0]
   have h1:=z4a (dtk d t k) t;have h2:=z3h d t k;unfold cnk at h1;unfold pvs;rw[List.length_map];refine⟨?_,by omega⟩;unfold pts prt;simp
theorem z38(A:Option Addr)(c:Nat)(d t:ByteArray)(k:Nat):bkb (pbk A c (dtl d t k) t (dpl d t k) 0) 0=dbs d t k:=by
 unfold dtl dpl dbs sbt;by_cases h0:k=0
 · rw[if_pos h0,if_pos h0,if_pos h0]
   have e:t.extract 0 (0+t.size)=t:=by rw[Nat.zero_add];exact ByteArray.extract_zero_size
   simp only[pbk,bkb,List.append_nil,e];rfl
 · rw[if_neg h0,if_neg h0,if_neg h0]
   exact zaL 0 (zbG d t k)
def zhe(W:World)(d t:ByteArray)(k:Nat)(e:Ending)(w':World):Prop:=
 ∃A n c g cp,e=.returned (.tuple #[.slice A n c,.slice (some ⟨g,0,none⟩) (dpl d t k).length cp,.int .i64 0])∧IsTks w' A n (dtl d t k)∧n≤c∧Pcs w' g (dpl d t k)∧Below W.heap.size W w'
theorem z9m(d t:ByteArray)(w:World)(ht:t.size≤30000):Calls Tryz.prog 9 #[.string d,.string t,.int .i64 0] w (zhe w d t 0):=by
 obtain⟨z,hz⟩:∃z,t.size=z:=⟨_,rfl⟩
 have hz3:z≤30000:=by omega
 have HR:=hid (show dtl d t 0=[]∧dpl d t 0=[⟨0,0,z,0⟩] from⟨rfl,by unfold dpl;rw[if_pos rfl,hz]⟩);go_enter Tryz.func9,Tryz.ntmps9;go_wp2_with fail;go_ret3;obtain⟨h1,h2⟩:=HR.out;unfold zhe;rw[h1,h2];refine⟨none,0,0,w.heap.size,1,rfl,⟨rfl,qZ,fun c hc=>absurd hc (by simp),.inl rfl⟩,qR,⟨by simp,fun i q hq=> ?_⟩,qL⟩;cases i with
 |zero=>simp at hq;subst hq;exact⟨by simp,by simp,by simp,by simp⟩
 |succ i=>simp at hq
theorem z9n(d t:ByteArray)(k:Nat)(w:World)(H:Tabx w)(hk:1≤k∧k≤9)(hd:d.size≤100000)(ht:t.size≤30000):Calls Tryz.prog 9 #[.string d,.string t,.int .i64 k] w (zhe w d t k):=by
 have h0:k≠0:=by omega
 have e1:((k:Int)==0)=false:=by rw[qN];omega
 have e2:(k==0)=false:=by rw[qN];omega
 have e3:¬k=0:=h0
 have HTk:=hid (show Calls Tryz.prog 17 #[.string d,.string t,.int .i64 k] w (Px.TkR w (dtk d t k)) from by
  have h:=Px.tokens_any d t k w H.1 hk (by omega) (by omega);unfold dtk;rw[if_neg h0];exact h)
 have hlen:=z3h d t k
 have HPt:=hid (fun(A:Option Addr) (c:Nat) (w':World) (b:Below w.heap.size w w') (hI:IsTks w' A (dtk d t k).length (dtk d t k)) (hc:(dtk d t k).length≤c)=>
  zaO A (dtk d t k).length c (dtk d t k) t w' (H.keep b).2 hI hc (by omega) (by omega) (z5a h0) (z2P d t k))
 have HR:=hid (show dtl d t k=dtk d t k∧dpl d t k=pvs (dtk d t k) t (pts (dtk d t k) t) from⟨by unfold dtl;rw[if_neg h0],by unfold dpl;rw[if_neg h0]⟩);have HLn:=hid (z73 d t k (by omega)).1;obtain⟨L,hL⟩:∃L,dtk d t k=L:=⟨_,rfl⟩
 rw[hL] at HTk HPt HR;obtain⟨n,hn⟩:∃n,L.length=n:=⟨_,rfl⟩
 rw[hL,hn] at hlen;rw[hn] at HPt;have HN:=hid hn;have hn3:n≤30000:=by omega
 clear hL H hn h0;go_enter Tryz.func9,Tryz.ntmps9
 go_wp2_with (first
  |(go_at_call 17;(with_reducible refine HTk.out.mono ?_);rintro e w1 ⟨A,c,rfl,h1,hc1,b1⟩;rw[HN.out] at h1 hc1 ⊢;have H1:=hid (And.intro h1 hc1);have B1:=hid b1;clear h1 hc1 b1)
  |(go_at_call 18;(with_reducible refine(HPt.out A c w1 B1.out H1.out.1 H1.out.2).mono ?_);rintro e w2 ⟨v,rfl,o2,b2⟩;have O2:=hid o2;have H2:=hid (H1.out.1.below b2);have B2:=hid (B1.out.trans (b2.mono B1.out.size));clear o2 b2))
 go_ret3;obtain⟨h1,h2⟩:=HR.out;have hl:=HLn.out;unfold zhe;rw[h2] at hl;rw[h1,h2];obtain⟨g,cp,rfl,hp⟩:=Pcs.of_owp O2.out hl;exact⟨A,n,c,g,cp,rfl,H2.out,H1.out.2,hp,B2.out⟩
theorem zbR(d t:ByteArray)(k:Nat)(w:World)(H:Tabx w)(hk:k≤9)(hd:d.size≤100000)(ht:t.size≤30000):Calls Tryz.prog 9 #[.string d,.string t,.int .i64 k] w (zhe w d t k):=by
 by_cases h0:k=0
 · subst h0;exact z9m d t w ht
 · exact z9n d t k w H (by omega) hd ht
theorem z9u(A A2:Option Addr)(n c n2 c2:Nat)(s:ByteArray)(w:World):Calls Tryz.prog 11 #[.slice A n c,.slice A2 n2 c2,.string s] w fun e w'=>
 e=.returned (.func (.func 23) #[] #[.pointer (some ⟨w.heap.size+1+1,0,none⟩),.pointer (some ⟨w.heap.size+1,0,none⟩),.pointer (some ⟨w.heap.size,0,none⟩)])∧
  w'=((w.alloc (.cells #[.slice A n c] 29)).alloc (.cells #[.slice A2 n2 c2] 30)).alloc (.cells #[.string s] 9):=by
 have hmf:∀ (fn:Fn) (first cap:Array Value) (w:World),(Instr.makeFunc fn first cap).run Tryz.prog w=.ok (.func fn first cap) w:=fun _ _ _ _=>rfl
 go_enter Tryz.func11,Tryz.ntmps11;go_wp2;go_ret;exact⟨by simp,rfl⟩
theorem z5S(A:Option Addr)(n c g cp:Nat)(L:List Tk)(s:ByteArray)(PL:List Pv)(most:Int)(w1:World)(hT:z5p w1)(hI:IsTks w1 A n L)(hnc:n≤c)(hn:n≤100000)(hs:s.size≤200000)(hPl:PL.length≤1000)(hok:Pok n s PL)(hP:Pcs w1 g PL)
 (hm:∀x∈L,may x=true) (hlen:(bkb (pbk A c L s PL 0) 0).length≤50000000):
 Calls Tryz.prog 10 #[.func (.func 23) #[] #[.pointer (some ⟨w1.heap.size+1+1,0,none⟩),.pointer (some ⟨w1.heap.size+1,0,none⟩),.pointer (some ⟨w1.heap.size,0,none⟩)],.int .i64 most]
  (((w1.alloc (.cells #[.slice A n c] 29)).alloc (.cells #[.slice (some ⟨g,0,none⟩) PL.length cp] 30)).alloc (.cells #[.string s] 9)) fun e w'=>
  (Fit most (pbk A c L s PL 0)→e=.returned (.tuple #[.string (z1P (nb (bkb (pbk A c L s PL 0) 0)) (bkb (pbk A c L s PL 0) 0).length),.int .i64 0])∧Below w1.heap.size w1 w')∧
  (¬Fit most (pbk A c L s PL 0)→e=.returned (.tuple #[.string ⟨#[]⟩,.int .i64 4])∧Below w1.heap.size w1 w'):=by
 have b3:Below w1.heap.size w1 (((w1.alloc (.cells #[.slice A n c] 29)).alloc (.cells #[.slice (some ⟨g,0,none⟩) PL.length cp] 30)).alloc (.cells #[.string s] 9)):=
  ((qL).alloc (by simp) _).alloc (by simp;omega) _
 have c1:(((w1.alloc (.cells #[.slice A n c] 29)).alloc (.cells #[.slice (some ⟨g,0,none⟩) PL.length cp] 30)).alloc (.cells #[.string s] 9)).cell? ⟨w1.heap.size,0,none⟩=some (.slice A n c):=
  ((Hb.new w1 _ _).alloc _|>.alloc _).cell1
 have c2:(((w1.alloc (.cells #[.slice A n c] 29)).alloc (.cells #[.slice (some ⟨g,0,none⟩) PL.length cp] 30)).alloc (.cells #[.string s] 9)).cell? ⟨w1.heap.size+1,0,none⟩=some (.slice (some ⟨g,0,none⟩) PL.length cp):=by
  have:=((Hb.new (w1.alloc (.cells #[.slice A n c] 29)) 30 #[.slice (some ⟨g,0,none⟩) PL.length cp]).alloc (.cells #[.string s] 9)).cell1
  rwa [World.size_alloc] at this
 have c3:(((w1.alloc (.cells #[.slice A n c] 29)).alloc (.cells #[.slice (some ⟨g,0,none⟩) PL.length cp] 30)).alloc (.cells #[.string s] 9)).cell? ⟨w1.heap.size+1+1,0,none⟩=some (.string s):=by
  have:=(Hb.new ((w1.alloc (.cells #[.slice A n c] 29)).alloc (.cells #[.slice (some ⟨g,0,none⟩) PL.length cp] 30)) 9 #[.string s]).cell1
  rwa [World.size_alloc,World.size_alloc] at this
 have hz:(((w1.alloc (.cells #[.slice A n c] 29)).alloc (.cells #[.slice (some ⟨g,0,none⟩) PL.length cp] 30)).alloc (.cells #[.string s] 9)).heap.size=w1.heap.size+1+1+1:=by simp
 generalize ((w1.alloc (.cells #[.slice A n c] 29)).alloc (.cells #[.slice (some ⟨g,0,none⟩) PL.length cp] 30)).alloc (.cells #[.string s] 9)=w3 at b3 c1 c2 c3 hz ⊢;have eg:∀ (args:Array Value) (w:World),(callFunc 23 args).run Tryz.prog w=.ok (.enter 23 args) w:=enters_of Tryz.func23 (by kernel_rfl) rfl;have hP3:=hP.below b3;refine(callsIn_wide.1 (z8P 2 23 _ most (pbk A c L s PL 0) w3 qR (hT.keep b3) eg ?_ ?_ ?_)).mono ?_
 · intro l J Jx Jp W hW hJ hJx hJp hJT hY h0
   exact z9v 2 l _ _ _ w3.heap.size A n c g cp L s PL _ (by decide) hnc (by omega) (by omega) hPl hok rfl (by omega) (by omega) (by omega) hP3.1 W J Jx Jp hJ hJT hY
    ((hW.cell (p:=⟨w1.heap.size+1+1,0,none⟩) (by show w1.heap.size+1+1<w3.heap.size;omega)).trans c3) ((hW.cell (p:=⟨w1.heap.size+1,0,none⟩) (by show w1.heap.size+1<w3.heap.size;omega)).trans c2) ((hW.cell (p:=⟨w1.heap.size,0,none⟩) (by show w1.heap.size<w3.heap.size;omega)).trans c1)
    (hP3.below hW).2 h0
 · intro x hx
   obtain⟨q,hq,e1,e2,e3,e4,e5⟩:=zaM hx;obtain⟨dn,td,hdt⟩:=List.append_of_mem hq;obtain⟨o1,o2,o3,o4⟩:=hok dn q td hdt;rw[e1,e2,e3,e4];exact⟨(hI.below b3).sub hnc o1 o2,by omega,by omega,o4,fun _ t ht=>hm t (z18 ht)⟩
 · intro pre r hpr
   exact z9w hpr hlen
 · intro e w' q
   exact⟨fun h=>⟨(q.1 h).1,b3.trans ((q.1 h).2.mono b3.size)⟩,fun h=>⟨(q.2 h).1,b3.trans ((q.2 h).2.mono b3.size)⟩⟩
theorem z3j(d t:ByteArray)(k:Nat)(most:Int)(w:World)(H:Tabx w)(hd:d.size≤100000)(ht:t.size≤30000)(hk:k≤9):
 Calls Tryz.prog 6 #[.string d,.string t,.int .i64 k,.int .i64 most] w fun e w'=>Below w.heap.size w w'∧
  ((((dbs d t k).length+7) /8:Nat)≤most→e=.returned (.tuple #[.string (dby d t k),.int .i64 0]))∧(¬(((dbs d t k).length+7) /8:Nat)≤most→e=.returned (.tuple #[.string ⟨#[]⟩,.int .i64 4])):=by
 have HC:=hid (zbR d t k w H hk hd ht);have hsh:=z3k d t k (by omega);rw[z1r] at hsh;have hbn:bnd t.size≤100000:=by unfold bnd;split<;>omega
 have hln:=z73 d t k (by omega)
 have htl:(dtl d t k).length≤30000:=by
  unfold dtl
  split
  · simp
  · have:=z3h d t k;omega
 have HS:=hid (fun(A:Option Addr) (n c g cp:Nat) (w1:World) (b:Below w.heap.size w w1) (hI:IsTks w1 A n (dtl d t k)) (hnc:n≤c) (hP:Pcs w1 g (dpl d t k))=>
  z5S A n c g cp (dtl d t k) t (dpl d t k) most w1 (H.keep b).2 hI hnc (by have:=hI.leng;omega) (by omega) hln.2 (by have:=zf1 d t k;rwa [hI.leng] at this) hP (zgK d t k) (by rw[z38];omega))
 have HF:=hid (fun(A:Option Addr) (c:Nat)=>(show Fit most (pbk A c (dtl d t k) t (dpl d t k) 0)↔(((dbs d t k).length+7) /8:Nat)≤most from by unfold Fit;rw[z38];omega));have HB:=hid (fun(A A2:Option Addr) (n c n2 c2:Nat) (w1:World)=>z9u A A2 n c n2 c2 t w1);obtain⟨N,hN⟩:∃N,(dpl d t k).length=N:=⟨_,rfl⟩
 rw[hN] at HS;unfold zhe at HC;rw[hN] at HC;clear H hd ht hk hsh hbn hln htl hN;by_cases hf:(((dbs d t k).length+7) /8:Nat)≤most
 · have HFf:=hid hf
   clear hf;go_enter Tryz.func6,Tryz.ntmps6
   go_wp2_with (first
    |(go_at_call 9;(with_reducible refine HC.out.mono ?_);rintro e w1 ⟨A,n,c,g,cp,rfl,h1,h2,h3,b1⟩;have H1:=hid (And.intro h1 (And.intro h2 h3));have B1:=hid b1;clear h1 h2 h3 b1)
    |(go_at_call 11;(with_reducible refine(HB.out A _ n c _ _ w1).mono ?_);rintro e w2 ⟨rfl,rfl⟩)
    |(go_at_call 10;(with_reducible refine(HS.out A n c g cp w1 B1.out H1.out.1 H1.out.2.1 H1.out.2.2).mono ?_);rintro e w3 ⟨q1,q2⟩;obtain⟨rfl,b3⟩:=q1 ((HF.out A c).2 HFf.out);have B3:=hid (B1.out.trans (b3.mono B1.out.size));clear q1 q2 b3))
   go_ret2;exact⟨B3.out,fun _=>by rw[z38];rfl,fun h=>by exfalso;have:=HFf.out;omega⟩
 · have HFf:=hid hf
   clear hf;go_enter Tryz.func6,Tryz.ntmps6
   go_wp2_with (first
    |(go_at_call 9;(with_reducible refine HC.out.mono ?_);rintro e w1 ⟨A,n,c,g,cp,rfl,h1,h2,h3,b1⟩;have H1:=hid (And.intro h1 (And.intro h2 h3));have B1:=hid b1;clear h1 h2 h3 b1)
    |(go_at_call 11;(with_reducible refine(HB.out A _ n c _ _ w1).mono ?_);rintro e w2 ⟨rfl,rfl⟩)
    |(go_at_call 10;(with_reducible refine(HS.out A n c g cp w1 B1.out H1.out.1 H1.out.2.1 H1.out.2.2).mono ?_);rintro e w3 ⟨q1,q2⟩;obtain⟨rfl,b3⟩:=q2 (fun h=>by have h1:=(HF.out A c).1 h;have h2:=HFf.out;omega);have B3:=hid (B1.out.trans (b3.mono B1.out.size));clear q1 q2 b3))
   go_ret2;exact⟨B3.out,fun h=>by exfalso;have:=HFf.out;omega,fun _=>rfl⟩
theorem dfs:Dfs Tabx where
 keep:=fun h b=>h.keep b
 yes:=fun d t k most w H hd ht hk hm hf=>(z3j d t k most w H hd ht hk).mono fun e w' q=>⟨q.2.1 hf,q.1⟩
 full:=fun d t k most w H hd ht hk hm hf=>(z3j d t k most w H hd ht hk).mono fun e w' q=>⟨q.2.2 (by omega),q.1⟩
 no:=fun d t k most w H hk=>z9l d t k most w hk
 bound:=fun n w H hn=>zcd n w hn
theorem zaN{A:Option Addr}{c:Nat}{L:List Tk}{s:ByteArray}(hs:s.size≤65535):∀ (l:List Pv) (o O:Nat),∀x∈bkb (pbk A c L s l o) O,x≤1
 |[],_,_,x,h=>absurd h (by simp[pbk,bkb])
 |q::r,o,O,x,h=>by
  simp only[pbk,bkb,List.mem_append] at h;rcases h with h|h
  · rw[z0N (by rw[ByteArray.size_extract];omega)] at h
    exact zgX _ _ _ _ _ x h
  · exact zaN hs r _ _ x h
theorem zbN(d t:ByteArray)(k:Nat)(ht:t.size≤65535):∀x∈dbs d t k,x≤1:=by
 rw[←z38 none 0 d t k];exact zaN ht _ _ _
theorem z7o(d t:ByteArray)(k:Nat):(⟨((List.range (((dbs d t k).length+7) /8)).map fun i=>UInt8.ofNat (byn (nb (dbs d t k)) i)).toArray⟩:ByteArray)=dby d t k:=by
 rw[zfC];rfl
theorem zff(w1:World):Bw w1.heap.size (w1.alloc (.cells #[.slice none 0 0] 42)) w1.heap.size (.slice none 0 0) []:=
 ⟨heap_alloc_new _ _,World.ownsRow_nil _ _ _ _,qR⟩
def DR(W:World)(d t:ByteArray)(k:Nat)(most:Int)(e:Ending)(w':World):Prop:=
 Below W.heap.size W w'∧((((dbs d t k).length+7) /8:Nat)≤most→e=.returned (.tuple #[.string (dby d t k),.int .i64 0]))∧(¬(((dbs d t k).length+7) /8:Nat)≤most→e=.returned (.tuple #[.string ⟨#[]⟩,.int .i64 4]))
theorem z6E(d t:ByteArray)(k most:Int)(w:World)(hk:k<0∨9<k):Calls Tryz.prog 7 #[.string d,.string t,.int .i64 k,.int .i64 most] w fun e w'=>e=.returned (.tuple #[.string ⟨#[]⟩,.int .i64 2])∧Below w.heap.size w w':=by
 have HN:=hid (Px.Q.rtokens_no d t k w hk);clear hk;go_enter Tryz.func7,Tryz.ntmps7;go_wp2_with (go_at_call 12;(with_reducible refine HN.out.mono ?_);rintro e w1 ⟨rfl,b1⟩;have B1:=hid b1;clear b1);go_ret2;exact⟨rfl,B1.out⟩
theorem z4I(d t:ByteArray)(most:Int)(w:World)(ht:t.size≤30000):Calls Tryz.prog 7 #[.string d,.string t,.int .i64 0,.int .i64 most] w (DR w d t 0 most):=by
 have HT:=hid (Px.Q.rtokens_zero d t w (by omega));have hsh:=z3k d t 0 (by omega);rw[z1r] at hsh;have hbn:bnd t.size≤30000+6*31+5:=by unfold bnd;split<;>omega
 have e0:dbs d t 0=bkm 0 [] t true 0:=rfl
 have HW:=hid (fun(B P:Nat) (w2:World) (h:Bw B w2 P (.slice none 0 0) []) (hB:B≤w2.heap.size)=>
  (show Calls Tryz.prog 13 #[.pointer (some ⟨P,0,none⟩),.int .u8 0,.slice none 0 0,.string t,.bool true] w2 fun e w'=>e=.returned (.tuple #[])∧∃v',Bw B w' P v' (dbs d t 0)∧Below B w2 w' from
   (z2a h 0 (by decide) none 0 0 [] t true (fun _=>by omega) (fun w' _=>⟨rfl,qZ,fun c hc=>absurd hc (by simp),.inl rfl⟩) (by decide) (fun q=>absurd rfl q) (by show 0≤_;omega) hB).mono fun e w' q=>
    ⟨q.1,q.2.elim fun v' g=>⟨v',by rw[e0];exact g.1,g.2.below hB h.hB (fun j hj=>by cases hj)⟩⟩))
 have HX:=hid (fun(B P:Nat) (v:Value) (w2:World) (h:Bw B w2 P v (dbs d t 0)) (hB:B≤w2.heap.size)=>
  (show Calls Tryz.prog 15 #[.pointer (some ⟨P,0,none⟩)] w2 fun e w'=>e=.returned (.string (dby d t 0))∧Below w2.heap.size w2 w' from by
   have g:=text_any h (zbN d t 0 (by omega)) (by omega) hB;rw[z7o] at g;exact g))
 have hz:=z1r d t 0;unfold DR;obtain⟨X,hX⟩:∃X,dby d t 0=X:=⟨_,rfl⟩
 rw[hX] at HX hz ⊢;rw[←hz] at hsh ⊢;have hx7:X.size≤40000:=by omega
 clear e0 hX hz hsh hbn ht;by_cases hf:((X.size:Nat):Int)≤most
 all_goals
  have HFf:=hid hf;go_enter Tryz.func7,Tryz.ntmps7
  go_wp2_with (first
   |(go_at_call 12;(with_reducible refine HT.out.mono ?_);rintro e w1 ⟨v,rfl,_,b1⟩;have B1:=hid b1;have HNw:=hid (zff w1);clear b1)
   |(go_at_call 13;(with_reducible refine(HW.out w1.heap.size w1.heap.size _ HNw.out (by simp)).mono ?_);rintro e w3 ⟨rfl,v3,h3,b3⟩;have H3:=hid h3;have B3:=hid (((Below.refl w1.heap.size w1).alloc qR _).trans b3);clear h3 b3)
   |(go_at_call 15;(with_reducible refine(HX.out _ _ _ _ H3.out B3.out.size).mono ?_);rintro e w4 ⟨rfl,b4⟩;have B4:=hid (B1.out.trans ((B3.out.trans (b4.mono B3.out.size)).mono B1.out.size));clear b4))
  go_ret2
 · exact⟨B4.out,rfl,fun h=>by exfalso;have:=HFf.out;omega⟩
 · exact⟨B4.out,fun h=>by exfalso;have:=HFf.out;omega,rfl⟩
theorem z3g{w:World}{g:Nat}{T:TypeId}{a b c d:Value}(h:w.heap[g]? =some (.cells #[a,b,c,d] T (0,0))):w.cell? ⟨g,0,none⟩=some a∧w.cell? ⟨g,1,none⟩=some b∧w.cell? ⟨g,2,none⟩=some c∧w.cell? ⟨g,3,none⟩=some d:=by simp[World.cell?,h]
theorem Pcs.at{w w':World}{g:Nat}{l:List Pv}(h:Pcs w g l)(hz:w.heap.size≤w'.heap.size)(e:w'.heap[g]? =w.heap[g]?):Pcs w' g l:=
 ⟨Nat.lt_of_lt_of_le h.1 hz,fun i q hq=>by
  have k:∀j,w'.cell? ⟨g,j,none⟩=w.cell? ⟨g,j,none⟩:=fun j=>by unfold World.cell?;simp only[e]
  rw[k,k,k,k];exact h.2 i q hq⟩
theorem z4J(d t:ByteArray)(k:Nat)(most:Int)(w:World)(hk:1≤k∧k≤9)(hd:d.size≤32768)(ht:t.size≤10000):Calls Tryz.prog 7 #[.string d,.string t,.int .i64 k,.int .i64 most] w (DR w d t k most):=by
 have h0:k≠0:=by omega
 have hlen:=z3h d t k
 have HT:=hid (show Calls Tryz.prog 12 #[.string d,.string t,.int .i64 k] w fun e w'=> ∃A c,e=.returned (.tuple #[.slice A (dtk d t k).length c,.int .i64 0])∧IsTks w' A (dtk d t k).length (dtk d t k)∧(dtk d t k).length≤c∧Below w.heap.size w w' from by
  have h:=Px.Q.rtokens_any d t k w hk hd (by omega);rw[←Px.cutd_all hd] at h;have e:dtk (Px.cutd d) t k=dtk d t k:=by rw[Px.cutd_all hd]
  have e2:Px.G (Px.cutd d++t) (Px.Q.lv k) (Px.cutd d).size (0,0)=dtk d t k:=by unfold dtk;rw[if_neg h0]
  rw[e2] at h;rw[Px.cutd_all hd] at h;refine h.mono fun e w' q=> ?_
  obtain⟨v,rfl,ho,hb⟩:=q
  obtain⟨A,c,rfl,hI⟩:=IsTks.of_owq ho (fun x hx=>by
   have hx':=hx;unfold dtk at hx';rw[if_neg h0] at hx';obtain⟨_,g1,g2,g3⟩:=Px.G_may _ _ _ _ (fun h=>absurd rfl h) x hx';exact Tk.ok_of g1 ⟨g2.1,by omega⟩ ⟨g3.1,by omega⟩) (by unfold maxLen;omega)
  exact⟨A,c,rfl,hI,Px.owq_cap ho,hb⟩)
 have HP:=hid (fun(A:Option Addr) (c:Nat) (w':World) (hI:IsTks w' A (dtk d t k).length (dtk d t k)) (hc:(dtk d t k).length≤c)=>
  z8V A (dtk d t k).length c (dtk d t k) t w' hI hc (by omega) (by omega) (z5a h0) (z2P d t k))
 have hsh:=z3k d t k (by omega);rw[z1r] at hsh;have hbn:bnd t.size≤20000:=by unfold bnd;split<;>omega
 have hBT:(dbs d t k).length≤160000:=by omega
 have HX:=hid (fun(B P:Nat) (v:Value) (w2:World) (h:Bw B w2 P v (dbs d t k)) (hB:B≤w2.heap.size)=>
  (show Calls Tryz.prog 15 #[.pointer (some ⟨P,0,none⟩)] w2 fun e w'=>e=.returned (.string (dby d t k))∧Below w2.heap.size w2 w' from by
   have g:=text_any h (zbN d t k (by omega)) (by omega) hB;rw[z7o] at g;exact g))
 have hz:=z1r d t k;have hpl:=z73 d t k (by omega);have hok:=zf1 d t k;have HBt:=hid (fun(A:Option Addr) (c:Nat)=>z38 A c d t k);have e1:dtl d t k=dtk d t k:=by unfold dtl;rw[if_neg h0]
 have e2:dpl d t k=pvs (dtk d t k) t (pts (dtk d t k) t):=by unfold dpl;rw[if_neg h0]
 have HMy:=hid (z5a (d:=d) (t:=t) h0);rw[e1] at hok HBt;rw[←e2] at HP;unfold DR;obtain⟨X,hX⟩:∃X,dby d t k=X:=⟨_,rfl⟩
 rw[hX] at HX hz ⊢;rw[←hz] at hsh ⊢;have hx7:X.size≤40000:=by omega
 obtain⟨PL,hPL⟩:∃PL,dpl d t k=PL:=⟨_,rfl⟩
 rw[hPL] at HP hpl hok HBt;obtain⟨L,hL⟩:∃L,dtk d t k=L:=⟨_,rfl⟩
 rw[hL] at HT HP hok HBt HMy hlen;obtain⟨n,hn⟩:∃n,L.length=n:=⟨_,rfl⟩
 rw[hn] at HT HP hok hlen;obtain⟨BT,hB⟩:∃BT,dbs d t k=BT:=⟨_,rfl⟩
 rw[hB] at HX HBt hBT;obtain⟨N,hN⟩:∃N,PL.length=N:=⟨_,rfl⟩
 rw[hN] at hpl;have HN:=hid hN;have HOk:=hid hok;have e3:((k:Int)==0)=false:=by rw[qN];omega
 have e4:(k==0)=false:=by rw[qN];omega
 have e5:¬k=0:=h0;have hn7:n≤10000:=by omega
 have hN7:N≤1000:=hpl.2;have hN1:0<N:=hpl.1;clear hX hz hsh hbn hPL hL hn hB hN hok e1 e2 hpl hd h0 hlen;by_cases hf:((X.size:Nat):Int)≤most
 all_goals
  have HFf:=hid hf;go_enter Tryz.func7,Tryz.ntmps7
  go_wp2_with (first
   |(go_at_call 12;(with_reducible refine HT.out.mono ?_);rintro e w1 ⟨A,c,rfl,h1,hc1,b1⟩;have H1:=hid (And.intro h1 hc1);have B1:=hid b1;have hnc:=hc1;have HNw:=hid (zff w1);have hb2:=(Below.refl w1.heap.size w1).alloc qR (.cells #[.slice none 0 0] 42);have B2:=hid hb2;clear h1 hc1 b1 hb2)
   |(go_at_call 14;(with_reducible refine(HP.out A c _ (H1.out.1.below B2.out) H1.out.2).mono ?_);rintro e w3 ⟨v3,rfl,o3,b3⟩;obtain⟨g,cp,rfl,hp3⟩:=Pcs.of_owp o3 (by rw[HN.out];exact hN1);rw[HN.out];have hg3:=(o3.lt g rfl).1;rw[World.size_alloc] at hg3;have HG:=hid hg3;have HPc:=hid hp3;have HW3:=hid (HNw.out.below b3);have B3:=hid (B2.out.trans (b3.mono B2.out.size));clear o3 b3 hp3 hg3))
  go_loopw [14,15] (fun at' i wr=> ∃ (j:Nat) (dn td:List Pv) (v:Value) (bs:List Nat),PL=dn++td∧dn.length=j∧i=.int .i64 j∧at'=.int .i64 (z3B dn:Nat)∧Bw w1.heap.size wr w1.heap.size v bs∧bs++bkb (pbk A c L t td (z3B dn)) bs.length=BT∧Ap w1.heap.size v.ownBlock wr g∧Pcs wr g PL∧Below w1.heap.size w1 wr) (fun _ i _=>N - (intOf i).toNat)
  case atStart=>exact⟨0,[],PL,_,[],rfl,rfl,rfl,rfl,HW3.out,by rw[List.nil_append];exact HBt.out A c,⟨HPc.out.1,by have:=HG.out;omega,fun q=>by cases q⟩,HPc.out,B3.out⟩
  case round=>
   obtain⟨j,dn,td,v,bs,hp,hj,rfl,rfl,hW,hBs,hAp,hPc,hb⟩:=hrel;have HHp:=hid hp;have HHb:=hid hBs;have HHw:=hid hW;have HAp:=hid hAp;have HPr:=hid hPc;have HB:=hid hb;cases td with
   |nil=>
    have ej:j=N:=by rw[←hj,←HN.out,hp,List.append_nil]
    subst ej;have d1:decide ((j:Int)<(j:Int))=false:=qF (by omega);have d1':decide (j<j)=false:=qF (by omega);have HX':=hid (HX.out w1.heap.size w1.heap.size v wr (by have h:=HHb.out;simp only[pbk,bkb,List.append_nil] at h;rw[←h];exact hW) hb.size);clear hp hBs hW hAp hPc hb hj;go_wp2_with (go_at_call 15;(with_reducible refine HX'.out.mono ?_);rintro e w4 ⟨rfl,b4⟩;have B4:=hid (B1.out.trans ((HB.out.trans (b4.mono HB.out.size)).mono B1.out.size));clear b4);go_ret2
    first|exact⟨B4.out,rfl,fun h=>by exfalso;have:=HFf.out;omega⟩|exact⟨B4.out,fun h=>by exfalso;have:=HFf.out;omega,rfl⟩
   |cons q td=>
    have hlt:j<N:=by rw[←hj,←HN.out,hp,qA,qC];omega
    have hq:PL[j]? =some q:=by rw[hp,←hj];simp
    obtain⟨o1,o2,o3,o4⟩:=HOk.out dn q td hp;obtain⟨n0,n1,n2,n3⟩:=hPc.2 j q hq
    have hlast:td.isEmpty=decide (j+1=N):=by
     have e:N=j+1+td.length:=by rw[←HN.out,hp,qA,qC,hj];omega
     cases td with
     |nil=>exact(q9T (by simpa using e.symm)).symm
     |cons x td=>exact(qF (by rw[e,qC];omega)).symm
    obtain⟨f,u,z,kk⟩:=q;simp only at o1 o2 o3 o4 n0 n1 n2 n3;have HZt:=hid (show z3B (dn++[⟨f,u,z,kk⟩])=z3B dn+z by rw[z16];rfl);obtain⟨o,ho⟩:∃o,z3B dn=o:=⟨_,rfl⟩
    obtain⟨la,hla⟩:∃la,decide (j+1=N)=la:=⟨_,rfl⟩
    obtain⟨Y,hY⟩:∃Y,(if c=f then A else Option.map (fun x=>x.add (f*3)) A)=Y:=⟨_,rfl⟩
    obtain⟨RA,hRA⟩:∃RA,t.extract o (o+z)=RA:=⟨_,rfl⟩
    obtain⟨MB,hMB⟩:∃MB,bkm kk (seg L f u) RA la bs.length=MB:=⟨_,rfl⟩
    have hnx:(bs++MB)++bkb (pbk A c L t td (o+z)) (bs++MB).length=BT:=by
     have h:=HHb.out;simp only[pbk,bkb] at h;rw[hlast,hla,ho,hRA,hMB] at h;rw[qD,qA];exact h
    have HNx:=hid hnx
    have hbl:bs.length≤160000:=by
     have:=congrArg List.length HHb.out;rw[qA] at this;omega
    have hRs:RA.size≤10000:=by rw[←hRA,ByteArray.size_extract];omega
    have HWr:=hid (fun(W1:World) (b:Below wr.heap.size wr W1)=>(show Calls Tryz.prog 13 #[.pointer (some ⟨w1.heap.size,0,none⟩),.int .u8 kk,.slice Y (u - f:Nat) (c - f:Nat),.string RA,.bool la] W1 fun e w'=>e=.returned (.tuple #[])∧∃v',Bw w1.heap.size w' w1.heap.size v' (bs++MB)∧Chg w1.heap.size v.ownBlock W1 v'.ownBlock w' from by
     have g:=z2a (HHw.out.below b) kk o4 Y (u - f) (c - f) (seg L f u) RA la (fun _=>by omega) (fun w' b'=>by
      rw[←hY];exact(H1.out.1.below ((HB.out.trans (b.mono HB.out.size)).trans b')).sub hnc o1 o2) (by omega) (fun _ x hx=>HMy.out x (z18 hx)) (by omega) (qK HB.out.size b.size)
     rw[hMB] at g;exact g))
    rw[ho] at HZt o3 ⊢;have d1:decide ((j:Int)<(N:Int))=true:=q9T (by omega);have d1':decide (j<N)=true:=q9T hlt;have ix:(j:Int).toNat<N:=by omega
    have huc:u≤c:=by omega
    have hfc:f≤c:=by omega
    have l1:((j:Int)==(N:Int) - 1)=la:=by
     rw[←hla];by_cases h:j+1=N
     · rw[q9T h,beq_iff_eq];omega
     · rw[qF h,qN];omega
    have l2:((j:Int)==IntKind.i64.wrap ((N:Int) - 1))=la:=by rw[IntKind.wrap_i64,←l1];congr 1;omega
    have hoz:(o:Int)+(z:Int)=((o+z:Nat):Int):=by omega
    obtain⟨oz,hoz'⟩:∃oz,o+z=oz:=⟨_,rfl⟩
    have hoo:o≤oz:=by omega
    rw[hoz'] at HNx HZt o3 hRA hoz;have hw1:IntKind.i64.wrap (oz:Int)=(oz:Int):=by rw[IntKind.wrap_i64];omega
    have hot:o≤10000:=by omega
    have hztt:oz≤10000:=by omega
    have HAw:=hid (show ∀W1,Below wr.heap.size wr W1→wr.heap.size<W1.heap.size→Ap w1.heap.size v.ownBlock W1 wr.heap.size∧Ap w1.heap.size v.ownBlock W1 g from fun W1 b hlt=>⟨⟨hlt,by have:=HHw.out.lt;omega,fun q=>by have:=(HHw.out.ow.lt _ q).2;omega⟩,⟨Nat.lt_of_lt_of_le HAp.out.1 b.size,HAp.out.2.1,HAp.out.2.2⟩⟩)
    have HWq:=hid (fun(W1:World) (b:Below wr.heap.size wr W1) (hQ:W1.heap[wr.heap.size]? =some (.cells #[.int .i64 f,.int .i64 u,.int .i64 z,.int .u8 kk] 46 (0,0)))=>(show Calls Tryz.prog 13 #[.pointer (some ⟨w1.heap.size,0,none⟩),.int .u8 kk,.slice Y (u - f:Nat) (c - f:Nat),.string RA,.bool la] W1 fun e w'=>e=.returned (.tuple #[])∧
     (w'.cell? ⟨wr.heap.size,0,none⟩=some (.int .i64 f)∧w'.cell? ⟨wr.heap.size,1,none⟩=some (.int .i64 u)∧w'.cell? ⟨wr.heap.size,2,none⟩=some (.int .i64 z)∧w'.cell? ⟨wr.heap.size,3,none⟩=some (.int .u8 kk))∧∃v5,Bw w1.heap.size w' w1.heap.size v5 (bs++MB)∧Ap w1.heap.size v5.ownBlock w' g∧Pcs w' g PL∧Below w1.heap.size w1 w' from
     (HWr.out W1 b).mono fun e w' q=>⟨q.1,by
      obtain⟨v5,h5,c5⟩:=q.2;obtain⟨hA1,hA2⟩:=HAw.out W1 b (qW.1 hQ).1;obtain⟨hA3,hA4⟩:=hA1.chg c5;obtain⟨hA5,hA6⟩:=hA2.chg c5;exact⟨z3g (hA4.trans hQ),v5,h5,hA5,(HPr.out.below b).at c5.size hA6,(HB.out.trans (b.mono HB.out.size)).trans (c5.below (qK HB.out.size b.size) qR (fun q hq=>(HHw.out.ow.lt q hq).1))⟩⟩))
    clear hp hBs hW hAp hPc hb hq hlast ho hla hnx hMB hoz'
    go_upto_region 13 with fail
    have b2:Below wr.heap.size wr (wr.alloc (.cells #[.int .i64 f,.int .i64 u,.int .i64 z,.int .u8 kk] 46)):=qL;have hQ:=heap_alloc_new wr (.cells #[.int .i64 f,.int .i64 u,.int .i64 z,.int .u8 kk] 46);have hz1:(wr.alloc (.cells #[.int .i64 f,.int .i64 u,.int .i64 z,.int .u8 kk] 46)).heap.size=wr.heap.size+1:=by simp
    generalize wr.alloc (.cells #[.int .i64 f,.int .i64 u,.int .i64 z,.int .u8 kk] 46)=W1 at b2 hQ hz1 ⊢;obtain⟨q0,q1,q2,q3⟩:=z3g hQ;have B5:=hid b2;have HQ:=hid (show W1.drew.heap[wr.heap.size]? =some (.cells #[.int .i64 f,.int .i64 u,.int .i64 z,.int .u8 kk] 46 (0,0)) from hQ);have HZ1:=hid hz1;clear b2 hQ hz1 n0 n1 n2 n3
    go_region_held3 (fun w'=>w'.cell? ⟨wr.heap.size,0,none⟩=some (.int .i64 f)∧w'.cell? ⟨wr.heap.size,1,none⟩=some (.int .i64 u)∧w'.cell? ⟨wr.heap.size,2,none⟩=some (.int .i64 z)∧w'.cell? ⟨wr.heap.size,3,none⟩=some (.int .u8 kk)) (first|exact⟨r0,r1,r2,r3⟩|exact⟨q0,q1,q2,q3⟩) (first|(go_at_call 13;(with_reducible refine(HWq.out W1.drew (B5.out.trans (Below.refl _ _).drew) HQ.out).mono ?_);rintro e w5 ⟨rfl,⟨r0,r1,r2,r3⟩,v5,h5⟩;have H5:=hid h5;clear h5))
    obtain⟨h5,hA5,hP5,hB5⟩:=H5.out;have HH5:=hid (And.intro h5 (And.intro hA5 (And.intro hP5 hB5)));clear h5 hA5 hP5 hB5 q0 q1 q2 q3 r0 r1 r3;go_wp2_with fail;go_roundw
    case rel=>exact⟨j+1,dn++[⟨f,u,z,kk⟩],td,v5,bs++MB,by rw[qD];exact HHp.out,by rw[qA,hj];rfl,by go_num,by rw[HZt.out],HH5.out.1,by rw[HZt.out];exact HNx.out,HH5.out.2.1,HH5.out.2.2.1,HH5.out.2.2.2⟩
    case measure=>(simp[intOf];try omega)
theorem z6U(d t:ByteArray)(w:World)(hd:d.size≤maxLen)(ht:t.size≤maxLen):Calls Tryz.prog 4 #[.string d,.string t] w fun e w'=>e=.returned (.bool (decide (1024<d.size∨2048<t.size)))∧w=w':=by
 unfold maxLen at hd ht;by_cases h1:1024<d.size
 · have d1:decide ((1024:Int)<(d.size:Int))=true:=q9T (by omega)
   have d1':decide (1024<d.size)=true:=q9T h1;rw[q9T (Or.inl h1)];clear h1;go_enter Tryz.func4,Tryz.ntmps4;go_wp2_with fail;go_ret;exact⟨rfl,rfl⟩
 · have d1:decide ((1024:Int)<(d.size:Int))=false:=qF (by omega)
   have d1':decide (1024<d.size)=false:=qF h1;obtain⟨b,hb⟩:∃b,decide (2048<t.size)=b:=⟨_,rfl⟩
   have d2:decide ((2048:Int)<(t.size:Int))=b:=by rw[←hb];exact decide_eq_decide.2 (by omega)
   have hd2:decide (1024<d.size∨2048<t.size)=b:=by rw[←hb];exact decide_eq_decide.2 ⟨fun g=>g.elim (fun q=>absurd q h1) id,.inr⟩
   rw[hd2];clear h1 hd2;go_enter Tryz.func4,Tryz.ntmps4;go_wp2_with fail;go_ret;exact⟨rfl,rfl⟩
theorem zh3{T:World→Prop}(C:Dfs T)(d t:ByteArray)(lv most:Int)(W:World)(H:T W)(hd:d.size≤1024)(ht:t.size≤2048)(h1: -9223372036854775808≤most)(h2:most≤9223372036854775807):∃ (X:ByteArray) (E:Int),∀w,Below W.heap.size W w→
 (Calls Tryz.prog 6 #[.string d,.string t,.int .i64 lv,.int .i64 most] w fun e w'=>e=.returned (.tuple #[.string X,.int .i64 E])∧Below w.heap.size w w')∧
 (Calls Tryz.prog 7 #[.string d,.string t,.int .i64 lv,.int .i64 most] w fun e w'=>e=.returned (.tuple #[.string X,.int .i64 E])∧Below w.heap.size w w'):=by
 by_cases hk:lv<0∨9<lv
 · exact⟨⟨#[]⟩,2,fun w b=>⟨C.no d t lv most w (C.keep H b) hk,z6E d t lv most w hk⟩⟩
 · obtain⟨k,rfl⟩:∃k:Nat,lv=k:=⟨lv.toNat,by omega⟩
   have hk9:k≤9:=by omega
   have hR:∀w,Calls Tryz.prog 7 #[.string d,.string t,.int .i64 k,.int .i64 most] w (DR w d t k most):=fun w=>by
    by_cases h0:k=0
    · subst h0;exact z4I d t most w (by omega)
    · exact z4J d t k most w (by omega) (by omega) (by omega)
   by_cases hf:(((dbs d t k).length+7) /8:Nat)≤most
   · exact⟨dby d t k,0,fun w b=>⟨C.yes d t k most w (C.keep H b) (by omega) (by omega) hk9 h2 hf,(hR w).mono fun e w' q=>⟨q.2.1 hf,q.1⟩⟩⟩
   · exact⟨⟨#[]⟩,4,fun w b=>⟨C.full d t k most w (C.keep H b) (by omega) (by omega) hk9 h1 (by omega),(hR w).mono fun e w' q=>⟨q.2.2 hf,q.1⟩⟩⟩
theorem dtells_law{T:World→Prop}(C:Dfs T)(d t:ByteArray)(lv most:Int)(W:World)(H:T W)(hd:d.size≤maxLen)(ht:t.size≤maxLen)(h1: -9223372036854775808≤most)(h2:most≤9223372036854775807):
 Calls Tryz.prog 3 #[.string d,.string t,.int .i64 lv,.int .i64 most] W fun e w'=>e=.returned (.bool true)∧Below W.heap.size W w':=by
 have HW:=hid (fun(w:World) (b:Below W.heap.size W w)=>zfo C w (C.keep H b));have HH:=hid (fun(w:World)=>z6U d t w hd ht);by_cases hh:1024<d.size∨2048<t.size
 · rw[q9T hh] at HH
   clear hh hd ht H C;go_enter Tryz.func3,Tryz.ntmps3
   go_wp2_with (first
    |(go_at_call 4;(with_reducible refine(HH.out _).mono ?_);rintro e w1 ⟨rfl,rfl⟩)
    |(go_at_call 5;(with_reducible refine(HW.out _ (Below.refl _ _)).mono ?_);rintro e w2 ⟨rfl,b2⟩;have B2:=hid b2;clear b2))
   go_ret;exact⟨rfl,B2.out⟩
 · rw[qF hh] at HH
   obtain⟨X,E,hA⟩:=zh3 C d t lv most W H (by omega) (by omega) h1 h2;have HD:=hid (fun(w:World) (b:Below W.heap.size W w)=>(hA w b).1);have HR:=hid (fun(w:World) (b:Below W.heap.size W w)=>(hA w b).2);clear hh hd ht H C hA;go_enter Tryz.func3,Tryz.ntmps3
   go_wp2_with (first
    |(go_at_call 4;(with_reducible refine(HH.out _).mono ?_);rintro e w1 ⟨rfl,rfl⟩)
    |(go_at_call 6;(with_reducible refine(HD.out _ (Below.refl _ _)).mono ?_);rintro e w2 ⟨rfl,b2⟩;have B2:=hid b2;clear b2)
    |(go_at_call 7;(with_reducible refine(HR.out _ B2.out).mono ?_);rintro e w3 ⟨rfl,b3⟩;have B3:=hid (B2.out.trans (b3.mono B2.out.size));clear b3)
    |(go_at_call 5;(with_reducible refine(HW.out _ B3.out).mono ?_);rintro e w4 ⟨rfl,b4⟩;have B4:=hid (B3.out.trans (b4.mono B3.out.size));clear b4))
   go_ret;exact⟨rfl,B4.out⟩
end Go.Proofs.YtacelhaidcmbcaaGreatDoor.V
