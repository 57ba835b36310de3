import Derived.Test.YthgilhebnlglkaaGreatDoorKMDfM
import Derived.RecoverIn
import Derived.Test.YthgilhebnlglkaaGreatDoorKMSpQ
import Derived.Test.YthgilhebnlglkaaGreatDoorKRfP
set_option linter.all false
set_option maxHeartbeats 0
set_option maxRecDepth 1000000
open Go.Proofs.Tryz
namespace Go.Proofs.YthgilhebnlglkaaGreatDoor
namespace V
open Go Go.RowKit M U
theorem mK(w:World):(binOp .eql 20 (.iface 160 (.agg #[.int .i64 4])) .nilIface).run prog w=.ok (.bool false) w:=by kernel_rfl
theorem qJ(w:World):(Instr.typeAssert (.iface 160 (.agg #[.int .i64 4])) 20 160 true).run prog w=.ok (.tuple #[.agg #[.int .i64 4],.bool true]) w:=by kernel_rfl
theorem catch_idle(n E:Nat)(w:World):
 CallsDIn Fence.wide n prog 113 #[.pointer (some ⟨E,0,none⟩)] .returning w λe c w'=>e=.returned (.tuple #[])/\c=.returning/\w'=w:=by
 refine callsDIn_of_wpSIn func113 rfl (by trivial) λa cs b=> ?_
 apply wpSIn_seq
 apply wpSIn_region
 simp[wpOpsSIn,go_sem,recoverD,b,ntmps113,Exit.thenS];refine wpSIn_of_wpIn rfl ?_
 gi_wp2;cases a;simp_all [bodyPostS,results,results113]
theorem catch_panic(n E:Nat)(y:Value)(a:List PanicEntry)(w:World)(g:w.cell? ⟨E,0,none⟩=some y)(j:w.frozen? ⟨E,0,none⟩=false):
 CallsDIn Fence.wide n prog 113 #[.pointer (some ⟨E,0,none⟩)] (.panicking ({v:=.iface 160 (.agg #[.int .i64 4]),recovered:=false}::a)) w λe l w'=>
  e=.returned (.tuple #[])/\l=.panicking ({v:=.iface 160 (.agg #[.int .i64 4]),recovered:=true}::a)/\w'=(w.alloc (.cells #[.int .i64 4] 160)).setCell ⟨E,0,none⟩ (.int .i64 4):=by
 have b:=qB g;have c:Below w.heap.size w (w.alloc (.cells #[.int .i64 4] 160)):=qL;have h:=heap_alloc_new w (.cells #[.int .i64 4] 160);generalize m:w.alloc (.cells #[.int .i64 4] 160)=d at c h;have s:d.cell? ⟨E,0,none⟩=some y:=(c.cell (p:=⟨E,0,none⟩) b).trans g;have o:d.frozen? ⟨E,0,none⟩=false:=(c.frozen (p:=⟨E,0,none⟩) b).trans j;have q:d.cell? ⟨w.heap.size,0,none⟩=some (.int .i64 4):=(by simp[World.cell?,h]);refine callsDIn_of_wpSIn func113 rfl (by trivial) λi cs k=> ?_
 apply wpSIn_seq
 apply wpSIn_region
 simp[wpOpsSIn,go_sem,recoverD,k,ntmps113,Exit.thenS];refine wpSIn_of_wpIn rfl ?_
 rw[show(#[Value.pointer (some {block:=E,off:=0})]++(Array.replicate 11 undef).setIfInBounds 3 (Value.iface 160 (Value.agg #[.int .i64 4])):Array Value)= #[Value.pointer (some {block:=E,off:=0}),undef,undef,undef,.iface 160 (.agg #[.int .i64 4]),undef,undef,undef,undef,undef,undef,undef] from rfl];have u:=mK;have r:=qJ
 gi_wp2_with fail
 simp[bodyPostS,results,results113]
def jB:List Pv->Nat
 |[]=>0
 |q::r=>q.z+jB r
theorem cV:∀l r:List Pv,jB (l++r)=jB l+jB r
 |[],r=>by simp[jB]
 |q::l,r=>by simp only[Ac,jB,cV l r];omega
def pbk(A:Option Addr)(c:Nat)(L:List Tk)(s:ByteArray):List Pv->Nat->List Bk
 |[],_=> []
 |q::r,o=>⟨q.k,if c=q.f then A else Option.map (λx=>x.add (q.f*3)) A,q.t - q.f,c - q.f,seg L q.f q.t,s.extract o (o+q.z),r.isEmpty⟩::pbk A c L s r (o+q.z)
theorem tN{A:Option Addr}{c:Nat}{L:List Tk}{s:ByteArray}{x:Bk}:∀ {l:List Pv} {o:Nat},x∈pbk A c L s l o->∃q∈l,x.k=q.k/\x.A=(if c=q.f then A else Option.map (λx=>x.add (q.f*3)) A)/\x.n=q.t - q.f/\x.L=seg L q.f q.t/\x.raw.size<=s.size
 |[],_,h=>absurd h (by simp[pbk])
 |q::r,o,h=>by
  simp only[pbk,Ab] at h;rcases h with rfl|h
  · exact⟨q,by simp,rfl,rfl,rfl,rfl,by show(s.extract o (o+q.z)).size<=s.size;rw[Ae];omega⟩
  · obtain⟨a,d,b⟩:=tN h
    exact⟨a,AK _ d,b⟩
theorem tM{A:Option Addr}{c:Nat}{L:List Tk}{s:ByteArray}:∀ {P:List (Nat×Nat)} {a b:Nat} (O:Nat),Chn a P b->bkb (pbk A c L s (pvs L s P) (szt L a)) O=prs L s P O
 |[],_,_,_,_=>rfl
 |(x,y)::r,a,b,O,h=>by
  obtain⟨d,i,g⟩:=h;simp only at d i g;subst d;have m:=szt_mono L i;have e:szt L x+(szt L y - szt L x)=szt L y:=(by omega);show bkb (pbk A c L s (pvo L s (x,y)::pvs L s r) (szt L x)) O=blq L s (x,y) r.isEmpty O++prs L s r (O+(blq L s (x,y) r.isEmpty O).length)
  simp only[pbk,bkb];have l:bkm (pvo L s (x,y)).k (seg L (pvo L s (x,y)).f (pvo L s (x,y)).t) (s.extract (szt L x) (szt L x+(pvo L s (x,y)).z)) (pvs L s r).isEmpty O=blq L s (x,y) r.isEmpty O:=by
   have j:(pvs L s r).isEmpty=r.isEmpty:=(by cases r<;>rfl);rw[j];unfold blq;show bkm _ (seg L x y) (s.extract (szt L x) (szt L x+(szt L y - szt L x))) _ _=_
   rw[e];rfl
  rw[l,show szt L x+(pvo L s (x,y)).z=szt L y from e,tM _ g]
def Pok(n:Nat)(s:ByteArray)(l:List Pv):Prop:=∀dn q td,l=dn++q::td->q.f<=q.t/\q.t<=n/\jB dn+q.z<=s.size/\q.k<=2
theorem tz{L:List Tk}{s:ByteArray}:∀ {P:List (Nat×Nat)} {a b:Nat},Chn a P b->szt L a+jB (pvs L s P)=szt L b
 |[],_,_,h=>by cases h;rfl
 |q::r,a,b,h=>by
  obtain⟨c,e,d⟩:=h;have f:=tz (L:=L) (s:=s) d;have g:=szt_mono L e;show szt L a+((szt L q.2 - szt L q.1)+jB (pvs L s r))=szt L b
  rw[c];omega
theorem Gd{L:List Tk}{s:ByteArray}{P:List (Nat×Nat)}(h:Chn 0 P L.length)(d:Tx.szs L=s.size):Pok L.length s (pvs L s P):=by
 intro i q td e;have f:=tz (L:=L) (s:=s) h;rw[szt_zero,szt_all qR,d,e,cV] at f;have c:q∈pvs L s P:=(by rw[e];simp);obtain⟨p,b,rfl⟩:=Ay.1 c;obtain⟨a,g⟩:=h.mem b;have:jB (pvo L s p::td)=(pvo L s p).z+jB td:=rfl;exact⟨a,g,by omega,kd_kind _ _⟩
theorem qq{A:Option Addr}{c:Nat}{L:List Tk}{s:ByteArray}{a:List Bk}{l:List Pv}{q:Pv}{o:Nat}{BL:List Bk}(h:a++pbk A c L s (q::l) o=BL):
 (a++[⟨q.k,if c=q.f then A else Option.map (λx=>x.add (q.f*3)) A,q.t - q.f,c - q.f,seg L q.f q.t,s.extract o (o+q.z),l.isEmpty⟩])++pbk A c L s l (o+q.z)=BL:=by
 rw[qD];exact h
theorem rA{b a r:List Bk}{N:Nat}(h:b=a++r)(c:(bkb b 0).length<=N):(bkb a 0).length<=N:=by
 have:(bkb a 0).length<=(bkb (a++r) 0).length:=by
  clear c h
  suffices h:∀ (l r:List Bk) (o:Nat),(bkb l o).length<=(bkb (l++r) o).length from h a r 0
  intro l
  induction l with
  |nil=>intro r o;simp[bkb]
  |cons x l ih=>
   intro r o;simp only[Ac,bkb,qA];have:=ih r (o+(bkm x.k x.L x.raw x.last o).length);omega
 rw[<-h] at this;omega
attribute [local go_sem] Oper.semAt_some
def AxB(n₁:Nat)(f:Bk->Nat->Act)(x:Bk)(a':Act)(W:World):Prop:=
 ∃Bx,n₁<=Bx/\W.heap[Bx]? =some (.cells #[.int .u8 x.k,.slice x.A x.n x.c,.string x.raw,.bool x.last] 164 (0,0))/\a'=f x Bx
theorem AxB.own{n₁:Nat}{f:Bk->Nat->Act}{x:Bk}{a':Act}:OwnFrom n₁ (λ(_:Unit) W=>AxB n₁ f x a' W):=λ_ W j row hs d i=>by
 obtain⟨Bx,c,a,g⟩:=hs;refine⟨Bx,c,(d.block Bx (qW.1 a).1 (λe=> ?_)).trans a,g⟩;obtain⟨_,o,b,h⟩:=i Bx e.symm;rw[a] at b;cases b;cases h
theorem qP{W:World}{T:TypeId}{g:Nat}{a b c d:Value}(h:W.heap[g]? =some (.cells #[a,b,c,d] T (0,0))):W.cell? ⟨g,0,none⟩=some a/\W.cell? ⟨g,1,none⟩=some b/\W.cell? ⟨g,2,none⟩=some c/\W.cell? ⟨g,3,none⟩=some d:=by simp[World.cell?,h]
def Fit(most:Int)(pre:List Bk):Prop:=((((bkb pre 0).length+7) /8:Nat):Int)<=max 0 most
theorem pD:∀ (l r:List Bk) (o:Nat),(bkb l o).length<=(bkb (l++r) o).length
 |[],r,o=>by simp[bkb]
 |x::l,r,o=>by
  simp only[Ac,bkb,qA];have:=pD l r (o+(bkm x.k x.L x.raw x.last o).length);omega
theorem He{most:Int}{l r:List Bk}(h:Fit most (l++r)):Fit most l:=by
 unfold Fit at h ⊢;have:=pD l r 0;omega
theorem qb(n gf:Nat)(lb:Array Value)(most:Int)(BL:List Bk)(w:World)(hn:2<=n)(hT:Tabs w)(eg:∀args w,(callFunc gf args).run prog w=.ok (.enter gf args) w)
 (Q:LI n prog gf lb KG (λxs=>xs=BL) (λ_=>True) (λd=> ∃r,BL=d++r) w)
 (hB:∀x∈BL,IsTks w x.A x.n x.L/\x.n<=100000/\x.raw.size<=200000/\x.k<=2/\(x.k≠0->∀t∈x.L,may t=true)/\Ku x.k x.L)
 (P:∀d r,BL=d++r->(bkb d 0).length<=50000000):
 CallsIn Fence.wide n prog 80 #[.func (.func gf) #[] lb,.int .i64 most] w λe w'=>
  (Fit most BL->e=.returned (.tuple #[.string (c7 (nb (bkb BL 0)) (bkb BL 0).length),.int .i64 0])/\Below w.heap.size w w')/\
  (¬Fit most BL->e=.returned (.tuple #[.string ⟨#[]⟩,.int .i64 4])/\Below w.heap.size w w'):=by
 have am:∀ (args:Array Value) (w:World),(callFunc 113 args).run prog w=.ok (.enter 113 args) w:=enters_of func113 (by kernel_rfl) rfl;have a4:=qH am;clear am;have O:=qH (λ(m:World)=>new_any (B:=m.heap.size) most m qR);refine gI func80 rfl ?_
 simp only[ntmps80,AE,qC,AB,Nat.reduceAdd,Nat.reduceSub,Be,Bf,Bg,Bh,Ap,Ac];apply eZ;refine jE (n:=n) ?_
 gi_wp2;apply eZ;refine jE (n:=n) ?_
 gi_wp2;apply eZ;refine jE (n:=n) ?_
 have U:Below w.heap.size w (w.alloc (.cells #[.int .i64 0] 27)):=(Below.refl _ w).alloc qR _;have S:(w.alloc (.cells #[.int .i64 0] 27)).heap[w.heap.size]? =some (.cells #[.int .i64 0] 27 (0,0)):=new_at _ _;have E:(w.alloc (.cells #[.int .i64 0] 27)).heap.size=w.heap.size+1:=(by simp);generalize au:w.alloc (.cells #[.int .i64 0] 27)=w1 at U S E;obtain⟨ak,ai⟩:=qh2 U S;gi_wp2;refine⟨trivial,λh=>(by cases h),?_⟩;clear au U S;refine(callsIn_wide.2 (O.o _)).mono ?_
 rintro e I ⟨rfl,k3,h3,z3⟩;rw[E] at h3 z3 ⊢;obtain⟨K3,H3,Z3⟩:=qh3 k3 h3 z3;clear k3 h3 z3;gi_wp2;apply eZ;apply eZ;refine jE (n:=n) ?_
 gi_wp2;apply rY;have an:=Z3.o;have u:=new_at I (.cells #[.pointer (some ⟨w.heap.size+1,0,none⟩)] 161);have F:Kept NoB w1 (I.alloc (.cells #[.pointer (some ⟨w.heap.size+1,0,none⟩)] 161)):=K3.o.alloc _;have G:Wt (I.alloc (.cells #[.pointer (some ⟨w.heap.size+1,0,none⟩)] 161)) (w.heap.size+1) (w.heap.size+1) (λj=>j=w.heap.size+1) (max 0 most) 0 0:=H3.o.keep ((Kept.refl NoB _).alloc _) (λ_ _ g=>g);have a8:(I.alloc (.cells #[.pointer (some ⟨w.heap.size+1,0,none⟩)] 161)).heap.size=I.heap.size+1:=(by simp);generalize ac:I.alloc (.cells #[.pointer (some ⟨w.heap.size+1,0,none⟩)] 161)=w2 at u F G a8 ⊢;generalize hp:w.heap.size+1=p at u G an E ⊢;have b2:Below w.heap.size w w2:=ak.o.trans (F.below (by omega) (λj g=>g.elim));have ab:w2.heap[w.heap.size]? =some (.cells #[.int .i64 0] 27 (0,0)):=(F.block _ (by omega) (λg=>g)).trans ai.o;have X:I.heap.size<w2.heap.size:=(by omega);have aD:p<w2.heap.size:=(by omega);have aq:w.heap.size<=w2.heap.size:=b2.size;generalize aw:I.heap.size=M at u X an ⊢;obtain⟨av,aB,a7,ar,ap⟩:=qh5 u ab b2 G Q;clear ak ai K3 H3 Z3 u ab b2 G F a8 ac aw E Q O
 -- what a round leaves as it is
 have z:=qH (λ(W:World) (Y:Kept (Rd p w2.heap.size) w2 W)=>(show Below w.heap.size w W/\W.heap[w.heap.size]? =some (.cells #[.int .i64 0] 27 (0,0))/\W.heap[M]? =some (.cells #[.pointer (some ⟨p,0,none⟩)] 161 (0,0))/\w2.heap.size<=W.heap.size from by
  have no:∀j,j<w2.heap.size->j≠p->¬Rd p w2.heap.size j:=λj h1 h2 g=>by rcases g with g|g<;>omega
  refine⟨a7.o.trans (Y.below aq (λj g=>by rcases g with g|g<;>omega)),(Y.block _ (by omega) (no _ (by omega) (by omega))).trans aB.o,(Y.block _ X (no _ X (by omega))).trans av.o,Y.size⟩))
 refine rX (n:=n) (gf:=gf) (lb:=lb) rfl eg ap.o a7.o (λ_=>rfl)
  (λps W=>lu w2 w2.heap.size p p (max 0 most) ps W/\(ps.1≠[]->Fit most ps.1))
  (λch d W=>ch=[{v:=.iface 160 (.agg #[.int .i64 4]),recovered:=false}]/\¬Fit most d/\Kept (Rd p w2.heap.size) w2 W)
  (λs W m row hs hg hr=>⟨lu.own s W m row hs.1 hg hr,hs.2⟩) (λch s W m row hs hg hr=>⟨hs.1,hs.2.1,hs.2.2.grown hg (λr e=> .inl (.inr (hr r e).1))⟩)
  (λd T W h j hj=>⟨by have g:Rd p w2.heap.size j:=h.1.rd j hj;rcases g with g|g<;>omega,h.1.lt hj⟩)
  _ ⟨lu.start ar.o (λj hj=> .inl hj),λh=>absurd rfl h⟩
  (AxB w2.heap.size (λx Bx=> {tmps:= #[.func (.func gf) #[] lb,.int .i64 most,undef,undef,.string ⟨#[]⟩,.pointer (some ⟨w.heap.size,0,none⟩),.pointer (some ⟨M,0,none⟩),.pointer (some ⟨Bx,0,none⟩),
   .func (.func 113) #[] #[.pointer (some ⟨w.heap.size,0,none⟩)],.int .i64 most,.pointer (some ⟨p,0,none⟩),.func (.func gf) #[] lb,.agg #[.int .u8 x.k,.slice x.A x.n x.c,.string x.raw,.bool x.last],
   undef,undef,undef,undef,undef],defers:=[]}))
  (λx a'=>AxB.own) ?assign ?body ?done ?panic
 case assign=>
  rintro l2 d T y Wa K J H;have HM:=qH J;have HK:=qH (λ(a':Act) (m:World) (h1:KeepsFrom w2.heap.size Wa m) (h2:Kept T Wa m) (h3:lu w2 w2.heap.size p p (max 0 most) (d,T) m/\(d≠[]->Fit most d)) h4=>H a' m h1 h2 h3 h4);clear H J;unfold KG;gi_wp2;exact HK.o _ _ ((KeepsOthers.alloc _ _).from _) ((Kept.refl _ _).alloc _) ⟨lu.own.alloc _ HM.o.1,HM.o.2⟩ ⟨Wa.heap.size,HM.o.1.kept.size,new_at _ _,rfl⟩
 case body=>
  rintro l2 d T y a' Wb aI ⟨rr,hr⟩ ⟨l,ae⟩ ⟨Bx,aE,a9,rfl⟩ ⟨r,i⟩;obtain⟨hb,c2,c3,c4⟩:=z.o Wb l.kept;obtain⟨ag,aj,a1,al,ah,a0⟩:=hB y (by rw[i];simp);have aa:=P d (y::r) (by rw[i];simp);have HP:=qH (l.round y (by omega) c4 (λw' b=>hT.keep (hb.trans (b.mono (by omega)))) (λw' b=>ag.below (hb.trans (b.mono (by omega)))) aa aj a1 al ah a0);obtain⟨x0,x1,x2,x3⟩:=qP a9;have m0:=one_cell c3;have HK:=qH l.kept;clear ag aj a1 al ah a0 aa l i hr a9 c2 c3;by_cases hf:Fit most (d++[y])
  · have HF:=qH hf
    clear hf;left;gi_wp2;refine⟨trivial,λh=>(by cases h),?_⟩;refine(callsIn_wide.2 HP.o).mono ?_
    rintro e m ⟨q,_⟩;obtain⟨rfl,q1⟩:=q HF.o;have Q1:=qH q1;clear q q1;gi_wp2;obtain⟨z1,T',z2,z3,z4⟩:=Q1.o;exact⟨z1,z2,T',⟨z3,HF.o⟩,z4⟩
  · have HF:=qH hf
    clear hf;right;gi_wp2;refine⟨trivial,λh=>(by cases h),?_⟩;refine(callsIn_wide.2 HP.o).mono ?_
    rintro e m ⟨_,q⟩;obtain⟨rfl,q2,q3⟩:=q (by have:=HF.o;unfold Fit at this;omega);have Q2:=qH q2;have Q4:=qH (L8 HK.o q3);clear q q2 q3;gi_wp2;exact⟨Q2.o,HF.o,Q4.o⟩
 case done=>
  rintro D ys T Z hD rfl ⟨l,ae⟩ H;obtain⟨C,c2,c3,c4⟩:=z.o Z l.kept;have af:Fit most ys:=by
   by_cases h:ys=[]
   · subst h
     show(((0+7) /8:Nat):Int)<=max 0 most
     omega
   · exact ae h
  obtain⟨a5,aG,aH⟩:=l;simp only at a5;have V:=qH (Go.Proofs.YthgilhebnlglkaaGreatDoor.text_any a5 (by have:=P ys [] (by simp);omega));have m0:=one_cell c3;refine⟨.inl rfl,?_⟩;refine jE (n:=n) ?_
  gi_wp2;refine⟨trivial,λh=>(by cases h),?_⟩;refine(callsIn_wide.2 V.o).mono ?_
  rintro e w5 ⟨rfl,k5⟩;have f2:=(k5.block w.heap.size (by omega) (λg=>g)).trans c2;have fD:=(k5.block D (qW.1 H).1 (λg=>g)).trans H;generalize ax:c7 (nb (bkb ys 0)) (bkb ys 0).length=TX;have g3:=one_cell f2;have g4:=one_free f2;have f6:=one_set f2 (.int .i64 0);have ad:=(sU (W:=w5) (g:=w.heap.size) (k:=D) (.int .i64 0) (by omega)).trans fD;obtain⟨F6,a3,K5⟩:=qh3 f6 ad k5;clear f2 fD f6 ad k5 H;gi_wp2;have R:Below w.heap.size w (w5.setCell ⟨w.heap.size,0,none⟩ (.int .i64 0)):=(C.trans (K5.o.below C.size (λj g=>g.elim))).setCell qR _;generalize aF:w5.setCell ⟨w.heap.size,0,none⟩ (.int .i64 0)=W6 at F6 a3 R ⊢;have e2:=(World.putObj_heap_other (w:=W6) (o:=.deferred none) (show w.heap.size≠D by omega)).trans F6.o;have q2:=one_cell e2;refine⟨by simp,.inl ⟨D,_,rfl,run_takeDeferred a3.o,?_⟩⟩;refine⟨by simp,.inr ⟨λh=>(by cases h),_,_,_,_,rfl,by simp[invoke,go_sem,a4.o],λ_ _=>trivial,(catch_idle (n - 1) w.heap.size _).mono ?_⟩⟩;rintro e u' aC ⟨rfl,rfl,rfl⟩;have ao:Below w.heap.size w (W6.putObj D (.deferred none)):=R.grown (grownBy_putObj' W6 D _) R.size (λk e=>by cases e;omega);simp[LeavesInM,LeavesIn,settle,results,results80,go_sem,q2];exact⟨λ_=>⟨ax.symm,ao⟩,af⟩
 case panic=>
  rintro D ch d Z hD ⟨r,i⟩ ⟨rfl,az,Y⟩ H;obtain⟨C,c2,c3,c4⟩:=z.o Z Y;refine⟨.inr ⟨_,rfl⟩,?_⟩;have e2:=(World.putObj_heap_other (w:=Z) (o:=.deferred none) (show w.heap.size≠D by omega)).trans c2;refine⟨by simp,.inl ⟨D,_,rfl,run_takeDeferred H,?_⟩⟩;refine⟨by simp,.inr ⟨λh=>(by cases h),_,_,_,_,rfl,?_,λ_ _=>trivial,(catch_panic (n - 1) w.heap.size _ [] _ (one_cell e2) (one_free e2)).mono ?_⟩⟩
  · simp[invoke,go_sem,a4.o]
  · rintro e u' aC ⟨rfl,rfl,rfl⟩
    have a2:=old_at (.cells #[.int .i64 4] 160) e2;have a6:=one_set a2 (.int .i64 4);have q2:=one_cell a6;have ay:¬Fit most BL:=λh=>az (by rw[i] at h;exact He h)
    have aA:Below w.heap.size w (((Z.putObj D (.deferred none)).alloc (.cells #[.int .i64 4] 160)).setCell ⟨w.heap.size,0,none⟩ (.int .i64 4)):=
     ((C.grown (grownBy_putObj' Z D _) C.size (λk e=>by cases e;omega)).alloc (by simp;omega) _).setCell qR _
    simp[LeavesInM,LeavesIn,settle,results,results80,go_sem,q2];exact⟨ay,λ_=>aA⟩
end V
namespace V
open Go Go.RowKit M U
attribute [local go_sem] Oper.semAt_some
theorem vX(m:Nat)(K:Act->World->Prop)(y u4 u8 s9 l B E F J C u S a8 a5 a7 a3 a2 T U Q a4 a0 Y a1 a6 Z V W P d w D s I i e H q:Value)(Bs O Bt G j N f t z k n c g cp r:Nat)(A X:Option Addr)(R M:ByteArray)(L:Bool)(w1:World)
 (q0:w1.cell? ⟨G,0,none⟩=some (.int .i64 f)) (q1:w1.cell? ⟨G,1,none⟩=some (.int .i64 t)) (q2:w1.cell? ⟨G,2,none⟩=some (.int .i64 z)) (q3:w1.cell? ⟨G,3,none⟩=some (.int .u8 k))
 (t1:w1.cell? ⟨Bt,0,none⟩=some (.slice A n c)) (p1:w1.cell? ⟨O,0,none⟩=some (.slice (some ⟨g,0,none⟩) N cp)) (af:f<=t) (ae:t<=c) (ag:f<=c) (hX:(if c=f then A else Option.map (λx=>x.add (f*3)) A)=X) (a9:R.size=r) (aa:z<=r) (ad:r<=1000000) (ah:R.extract 0 z=M)
 (hN:N<=1000) (ac:n<=c) (hn:n<=1000000) (ab:t<=n) (e1:((j:Int)==(N:Int) - 1)=L)
 (hK:K {tmps:= #[y,.pointer (some ⟨Bs,0,none⟩),.pointer (some ⟨O,0,none⟩),.pointer (some ⟨Bt,0,none⟩),u4,.string R,.int .i64 j,.pointer (some ⟨G,0,none⟩),.pointer (some ⟨w1.heap.size,0,none⟩),s9,l,B,E,F,J,C,u,
  .pointer (some ⟨G,3,none⟩),.int .u8 k,.slice A n c,.pointer (some ⟨G,0,none⟩),.int .i64 f,.pointer (some ⟨G,1,none⟩),.int .i64 t,.slice X (t - f) (c - f),.string R,.pointer (some ⟨G,2,none⟩),.int .i64 z,.string M,.int .i64 j,.slice (some ⟨g,0,none⟩) N cp,.int .i64 N,.int .i64 ((N:Int) - 1),.bool L,
  .agg #[.int .u8 k,.slice X (t - f) (c - f),.string M,.bool L],d,w,D,s,I,i,e,H,q],defers:=[]} (w1.alloc (.cells #[.int .u8 k,.slice X (t - f) (c - f),.string M,.bool L] 164)).drew):
 Code.wpIn Fence.wide m prog (Code.region 4 #[
  {dst:=some 17,op:=Op.fieldAddr 102 (Operand.tmp 7) 3,type:=0,pos:= "deflate.go:70",after:= #[],guard:=none}, 
  {dst:=some 18,op:=Op.load 5 (Operand.tmp 17),type:= 5,pos:= "deflate.go:70",after:= #[{on:=0,ground:=Ground.data}],guard:=none}, 
  {dst:=some 19,op:=Op.load 92 (Operand.tmp 3),type:= 92,pos:= "deflate.go:70",after:= #[],guard:=none}, 
  {dst:=some 20,op:=Op.fieldAddr 102 (Operand.tmp 7) 0,type:=0,pos:= "deflate.go:70",after:= #[],guard:=none}, 
  {dst:=some 21,op:=Op.load 3 (Operand.tmp 20),type:= 3,pos:= "deflate.go:70",after:= #[{on:=3,ground:=Ground.data}],guard:=none}, 
  {dst:=some 22,op:=Op.fieldAddr 102 (Operand.tmp 7) 1,type:=0,pos:= "deflate.go:70",after:= #[],guard:=none}, 
  {dst:=some 23,op:=Op.load 3 (Operand.tmp 22),type:= 3,pos:= "deflate.go:70",after:= #[{on:=5,ground:=Ground.data}],guard:=none}, 
  {dst:=some 24,op:=Op.slice 92 (Operand.tmp 19) (some (Operand.tmp 21)) (some (Operand.tmp 23)) none,type:= 92,pos:= "deflate.go:70",after:= #[{on:=2,ground:=Ground.data},{on:=4,ground:=Ground.data},{on:=6,ground:=Ground.data}],guard:=none}, 
  {dst:=some 25,op:=Op.move (Operand.tmp 5),type:= 9,pos:= "deflate.go:70",after:= #[],guard:=none}, 
  {dst:=some 26,op:=Op.fieldAddr 102 (Operand.tmp 7) 2,type:=0,pos:= "deflate.go:70",after:= #[],guard:=none}, 
  {dst:=some 27,op:=Op.load 3 (Operand.tmp 26),type:= 3,pos:= "deflate.go:70",after:= #[{on:=9,ground:=Ground.data}],guard:=none}, 
  {dst:=some 28,op:=Op.slice 9 (Operand.tmp 25) none (some (Operand.tmp 27)) none,type:= 9,pos:= "deflate.go:70",after:= #[{on:=8,ground:=Ground.data},{on:=10,ground:=Ground.data}],guard:=none}, 
  {dst:=some 29,op:=Op.move (Operand.tmp 6),type:= 3,pos:= "deflate.go:70",after:= #[],guard:=none}, 
  {dst:=some 30,op:=Op.load 99 (Operand.tmp 2),type:= 99,pos:= "deflate.go:70",after:= #[],guard:=none}, 
  {dst:=some 31,op:=Op.call {callee:=Callee.builtin Builtin.len,args:= #[Operand.tmp 30],argTypes:= #[99]},type:= 3,pos:= "deflate.go:70",after:= #[{on:=13,ground:=Ground.data}],guard:=none}, 
  {dst:=some 32,op:=Op.binOp BinOp.sub 3 (Operand.tmp 31) (Operand.const (Value.int IntKind.i64 1)) 3,type:= 3,pos:= "deflate.go:70",after:= #[{on:=14,ground:=Ground.data}],guard:=none}, 
  {dst:=some 33,op:=Op.binOp BinOp.eql 3 (Operand.tmp 29) (Operand.tmp 32) 3,type:= 4,pos:= "deflate.go:70",after:= #[{on:=12,ground:=Ground.data},{on:=15,ground:=Ground.data}],guard:=none}, 
  {dst:=some 34,op:=Op.build 164 #[(0,Operand.tmp 18),(1,Operand.tmp 24),(2,Operand.tmp 28),(3,Operand.tmp 33)],type:= 164,pos:= "deflate.go:70",after:= #[{on:=1,ground:=Ground.data},{on:=7,ground:=Ground.data},{on:=11,ground:=Ground.data},{on:=16,ground:=Ground.data}],guard:=none}, 
  {dst:=some 8,op:=Op.alloc 164,type:=0,pos:= "deflate.go:70",after:= #[],guard:=none}, 
  {dst:=none,op:=Op.store 164 (Operand.tmp 8) (Operand.tmp 34),type:=0,pos:= "deflate.go:70",after:= #[{on:=18,ground:=Ground.data},{on:=17,ground:=Ground.data},{on:=0,ground:=Ground.phase},{on:=1,ground:=Ground.phase},{on:=2,ground:=Ground.phase},{on:=3,ground:=Ground.phase},{on:=4,ground:=Ground.phase},{on:=5,ground:=Ground.phase},{on:=6,ground:=Ground.phase},{on:=7,ground:=Ground.phase},{on:=8,ground:=Ground.phase},{on:=9,ground:=Ground.phase},{on:=10,ground:=Ground.phase},{on:=11,ground:=Ground.phase},{on:=12,ground:=Ground.phase},{on:=13,ground:=Ground.phase},{on:=14,ground:=Ground.phase},{on:=15,ground:=Ground.phase},{on:=16,ground:=Ground.phase},{on:=17,ground:=Ground.phase},{on:=18,ground:=Ground.phase}],guard:=none}] true) (Exit.then K (λ_ _ _=>False))
  {tmps:= #[y,.pointer (some ⟨Bs,0,none⟩),.pointer (some ⟨O,0,none⟩),.pointer (some ⟨Bt,0,none⟩),u4,.string R,.int .i64 j,.pointer (some ⟨G,0,none⟩),u8,s9,l,B,E,F,J,C,u,S,a8,a5,a7,a3,a2,T,U,Q,a4,a0,Y,a1,a6,Z,V,W,P,d,w,D,s,I,i,e,H,q],defers:=[]} w1:=by
 have HK:=qH hK;clear hK;have b:∀ {a:Addr} {v:Value},w1.cell? a=some v->(w1.alloc (.cells #[.int .u8 0,.slice none 0 0,.string ⟨#[]⟩,.bool false] 164)).drew.cell? a=some v:=λ{a v} h=>by
  have:=qB h;exact(((Below.refl w1.heap.size w1).alloc qR _).cell (p:=a) this).trans h
 have t2:=b t1;have p2:=b p1;have r0:=b q0;have r1:=b q1;have r2:=b q2;have r3:=b q3;clear b;dsimp only
 gi_big_region
 exact HK.o
end V
namespace V
open Go Go.RowKit M U
attribute [local go_sem] Oper.semAt_some
theorem qI{S:Nat->Prop}{w w':World}(b:Below w.heap.size w w'):Kept S w w':=⟨b.os,b.tape,b.output,b.size,λk a _=>b.block k a⟩
theorem rq(m l Bs Bp Bt n₁:Nat)(A:Option Addr)(n c g cp:Nat)(L:List Tk)(s:ByteArray)(O:List Pv)(BL:List Bk)(hm:1<=m)(al:n<=c)(hn:n<=1000000)(hs:s.size<=1000000)(a6:O.length<=1000)(a7:Pok n s O)(aG:pbk A c L s O 0=BL)
 (aJ:Bs<n₁) (aB:Bp<n₁) (ay:Bt<n₁) (hg:g<n₁) (C:World)
 (J:List Bk×(Nat->Prop)->World->Prop) (Jx:List Bk->World->Prop) (Jp:List PanicEntry->List Bk->World->Prop) (hJ:AbidesFrom C.heap.size J) (ac:∀d T W1,J (d,T) W1->∀j,T j->n₁<=j/\j<W1.heap.size)
 (hY:∀d T x W,J (d,T) W->(∃r,BL=d++[x]++r)->YieldAt Fence.wide (m - 1) prog l (KG x) W λe F=>
  (e=.returned (.bool true)/\∃T',J (d++[x],T') F/\Kept T W F/\∀j,T' j->T j\/W.heap.size<=j)\/(e=.returned (.bool false)/\Jx (d++[x]) F)\/(∃ch,e=.panicked ch/\Jp ch (d++[x]) F))
 (cS:C.cell? ⟨Bs,0,none⟩=some (.string s)) (cP:C.cell? ⟨Bp,0,none⟩=some (.slice (some ⟨g,0,none⟩) O.length cp)) (cT:C.cell? ⟨Bt,0,none⟩=some (.slice A n c))
 (a5:∀i q,O[i]? =some q->C.cell? ⟨g,i*4,none⟩=some (.int .i64 q.f)/\C.cell? ⟨g,i*4+1,none⟩=some (.int .i64 q.t)/\C.cell? ⟨g,i*4+2,none⟩=some (.int .i64 q.z)/\C.cell? ⟨g,i*4+3,none⟩=some (.int .u8 q.k))
 (h0:∃T,J ([],T) C):
 CallsIn Fence.wide m prog 117 #[.func (.yield l) #[] #[],.pointer (some ⟨Bs,0,none⟩),.pointer (some ⟨Bp,0,none⟩),.pointer (some ⟨Bt,0,none⟩)] C λe F=>
  (∃v,e=.returned v/\((∃xs,xs=BL/\∃T,J (xs,T) F)\/(∃d:List Bk,True/\Jx d F)))\/(∃ch d,e=.panicked ch/\(∃r,BL=d++r)/\Jp ch d F):=by
 have aA:=qH ac;have no:∀ {j},j<n₁->¬n₁<=j:=λh=>by omega
 have ax:=no aB;have ap:=no ay;have M:=no hg;obtain⟨av,ar,HY,HT,ae⟩:=qh5 a7 a5 hY cT cP;obtain⟨N,hN⟩:∃N,O.length=N:=⟨_,rfl⟩
 have HN:=qH hN;rw[hN] at cP ae a6;clear a7 a5 hY cT no hN ac;refine callsIn_of_wp func117 rfl trivial ?_ rfl;simp only[ntmps117,AE,qC,AB,Nat.reduceAdd,Nat.reduceSub,Be,Bf,Bg,Bh,Ap,Ac];gi_wp2
 gi_loopw [5,12] (λr i wr=> ∃ (j:Nat) (G D:List Pv) (d:List Bk),O=G++D/\G.length=j/\i=.int .i64 j/\r=.string (s.extract (jB G) s.size)/\d++pbk A c L s D (jB G)=BL/\(∃T,J (d,T) wr)/\Kept (λj=>n₁<=j) C wr)
  (λ_ i _=>N - (intOf i).toNat)
 case atStart=>exact⟨0,[],O,[],rfl,rfl,rfl,by rw[show jB []=0 from rfl,Dm],aG,h0,Kept.refl _ _⟩
 case round=>
  obtain⟨j,G,D,d,P,B,rfl,rfl,hb,⟨T,Y⟩,y⟩:=hrel;obtain⟨ai,aE,HK⟩:=qh3 hb P y;have af:=qH (λF (b:Below wr.heap.size wr F)=>hJ (d,T) wr F none Y ⟨b.os,b.tape,b.output,b.size,λk hk _=>b.block k hk⟩ (λr e=>by cases e));cases D with
  |nil=>
   have e0:j=N:=(by rw[<-B,<-HN.o,P,Az]);subst e0;clear hb P y B;gi_wp2;go_end0;exact .inl ⟨_,rfl,.inl ⟨_,rfl,by have:=ai.o;simp only[pbk,Az] at this;subst this;exact⟨T,Y⟩⟩⟩
  |cons q D=>
   have aK:j<N:=(by rw[<-B,<-HN.o,P,qA,qC];omega);have hq:O[j]? =some q:=(by rw[P,<-B];simp);obtain⟨o1,o2,o3,o4⟩:=av.o G q D P;obtain⟨a0,a1,a2,a3⟩:=ar.o j q hq;have n0:=y.cell a0 M;have n1:=y.cell a1 M;have n2:=y.cell a2 M;have n3:=y.cell a3 M;clear a0 a1 a2 a3;have t0:=y.cell HT.o ap;have p0:=y.cell ae.o ax;have E:D.isEmpty=decide (j+1=N):=by
    have e:N=j+1+D.length:=(by rw[<-HN.o,P,qA,qC,B];omega);cases D with
    |nil=>exact(q9T (by simpa using e.symm)).symm
    |cons x D=>exact(qF (by rw[e,qC];omega)).symm
   obtain⟨f,t,z,k⟩:=q;simp only at o1 o2 o3 o4 n0 n1 n2 n3;have u:=qH (qq ai.o);have V:=qH (show jB (G++[⟨f,t,z,k⟩])=jB G+z by rw[cV];rfl);generalize ho:jB G=o at u V o3 ⊢;simp only at u;rw[E] at u;generalize hX:((if c=f then A else Option.map (λx=>x.add (f*3)) A))=X at u;obtain⟨R,hR⟩:∃R,s.extract o s.size=R:=⟨_,rfl⟩
   have aa:R.size=s.size - o:=(by rw[<-hR,Ae];omega);generalize hr:s.size - o=r at aa;have a4:R.extract 0 z=s.extract o (o+z):=(by rw[<-hR,ByteArray.extract_extract];congr 1<;>omega);have ab:R.extract z r=s.extract (o+z) s.size:=(by rw[<-hR,ByteArray.extract_extract];congr 1<;>omega);generalize aw:s.extract o (o+z)=S at u a4;rw[hR];have aF:z<=r:=(by omega);have aD:r<=1000000:=(by omega);have am:t<=c:=(by omega);have ao:f<=c:=(by omega);have e1:((j:Int)==(N:Int) - 1)=decide (j+1=N):=by
    by_cases h:j+1=N
    · rw[q9T h,AG];omega
    · rw[qF h,qN];omega
   generalize aq:(decide (j+1=N))=Q at e1 u;have az:=qH ab;clear hb P y hq Y E hR hr ho aw aq ab;gi_wp2;have b1:Below wr.heap.size wr (wr.alloc (.cells #[.int .i64 f,.int .i64 t,.int .i64 z,.int .u8 k] 102)):=qL;have K:=Hb.new wr 102 #[.int .i64 f,.int .i64 t,.int .i64 z,.int .u8 k];have I:(wr.alloc (.cells #[.int .i64 f,.int .i64 t,.int .i64 z,.int .u8 k] 102)).heap.size=wr.heap.size+1:=(by simp);generalize wr.alloc (.cells #[.int .i64 f,.int .i64 t,.int .i64 z,.int .u8 k] 102)=w1 at b1 K I ⊢;obtain⟨q0,q1,q2,q3⟩:=K.cells4;have t1:w1.cell? ⟨Bt,0,none⟩=some (.slice A n c):=(b1.cell (p:=⟨Bt,0,none⟩) (qB t0)).trans t0;have p1:w1.cell? ⟨Bp,0,none⟩=some (.slice (some ⟨g,0,none⟩) N cp):=(b1.cell (p:=⟨Bp,0,none⟩) (qB p0)).trans p0;obtain⟨ad,an⟩:=qh2 b1 K;clear b1 K t0 p0 n0 n1 n2 n3;refine wpIn_mono (vX m _ _ _ _ _ _ _ _ _ _ _ _ _ _ _ _ _ _ _ _ _ _ _ _ _ _ _ _ _ _ _ _ _ _ _ _ _ _ _ Bs Bp Bt wr.heap.size j N f t z k n c g cp r A X R S Q w1 q0 q1 q2 q3 t1 p1 o1 am ao hX aa aF aD a4 a6 al hn o2 e1 ?_) (λe a w h=>by cases e<;>first|exact h|exact h.elim);rw[I];have b2:Below wr.heap.size wr (w1.alloc (.cells #[.int .u8 k,.slice X (t - f) (c - f),.string S,.bool Q] 164)).drew:=(ad.o.alloc ad.o.size _).trans (Below.refl _ _).drew;have U:=(an.o.alloc (.cells #[.int .u8 k,.slice X (t - f) (c - f),.string S,.bool Q] 164)).drew;have H:=(Hb.new w1 164 #[.int .u8 k,.slice X (t - f) (c - f),.string S,.bool Q]).drew;rw[I] at H;generalize (w1.alloc (.cells #[.int .u8 k,.slice X (t - f) (c - f),.string S,.bool Q] 164)).drew=w2 at b2 U H ⊢;obtain⟨x0,x1,x2,x3⟩:=H.cells4;obtain⟨fn,tmps,aj,body,hy,a9⟩:=HY.o d T ⟨k,X,t - f,c - f,seg L f t,S,Q⟩ w2 (af.o w2 b2) ⟨_,u.o.symm⟩;unfold KG at hy;dsimp only at hy;have a8:=qH (aA.o d T wr (af.o wr (Below.refl _ _)));obtain⟨ak,au⟩:=qh2 U b2;clear U b2 t1 p1 q0 q1 q2 q3 I e1 hX a4;gi_wp2;refine a9.mono ?_
   clear hy a9 x0 x1 x2 x3 H;rintro e W3 (⟨rfl,T',ag,Z,aC⟩|⟨rfl,hJx3⟩|⟨ch,rfl,hJp3⟩)
   · have ah:=ak.o.kept Z (λh=>by have:=(a8.o _ h).2;omega)
     obtain⟨q0,q1,q2,q3⟩:=ah.cells4;have aH:=qH (HK.o.trans ((qI au.o).trans (Z.mono λj B=>(a8.o j B).1) λj B=> .inl B) λj B=> .inl B);have aI:=qH ag;clear Z ag aC ah q0 q1 q3;gi_wp2;go_roundw
     case rel=>exact⟨j+1,G++[⟨f,t,z,k⟩],D,d++[⟨k,X,t - f,c - f,seg L f t,S,Q⟩],by rw[qD];exact aE.o,by rw[qA,B];rfl,by go_num,by rw[V.o,<-az.o],by rw[V.o];exact u.o,⟨T',aI.o⟩,aH.o⟩
     case measure=>(simp[intOf];try omega)
   · gi_wp2
     refine bodyPost_ret (results_none rfl _ _ _) rfl ?_
     exact .inl ⟨_,rfl,.inr ⟨_,trivial,hJx3⟩⟩
   · gi_wp2
     exact⟨rfl,.inr ⟨_,_,rfl,⟨_,u.o.symm⟩,hJp3⟩⟩
end V
namespace V
open Go Go.RowKit M U
def Pcs(w:World)(g:Nat)(l:List Pv):Prop:=g<w.heap.size/\∀i q,l[i]? =some q->w.cell? ⟨g,i*4,none⟩=some (.int .i64 q.f)/\w.cell? ⟨g,i*4+1,none⟩=some (.int .i64 q.t)/\w.cell? ⟨g,i*4+2,none⟩=some (.int .i64 q.z)/\w.cell? ⟨g,i*4+3,none⟩=some (.int .u8 q.k)
theorem Pcs.below{w w':World}{g:Nat}{l:List Pv}(h:Pcs w g l)(e:Below w.heap.size w w'):Pcs w' g l:=
 ⟨Ag h.1 e.size,λi q f=>by
  obtain⟨a,b,c,d⟩:=h.2 i q f;exact⟨(e.cell (p:=⟨g,i*4,none⟩) h.1).trans a,(e.cell (p:=⟨g,i*4+1,none⟩) h.1).trans b,(e.cell (p:=⟨g,i*4+2,none⟩) h.1).trans c,(e.cell (p:=⟨g,i*4+3,none⟩) h.1).trans d⟩⟩
theorem Pcs.of_owp{w:World}{B:Nat}{v:Value}{l:List Pv}(h:Owp B w v l)(b:0<l.length):∃g c,v=.slice (some ⟨g,0,none⟩) l.length c/\Pcs w g l:=by
 obtain⟨g,c,rfl,_⟩:=h.form b;exact⟨g,c,rfl,(h.lt g rfl).2,λi q a=>h.cell rfl a⟩
noncomputable def dtl(d t:ByteArray)(k:Nat):List Tk:=if k=0 then[] else dtk d t k
noncomputable def dpl(d t:ByteArray)(k:Nat):List Pv:=if k=0 then[⟨0,0,t.size,0⟩] else pvs (dtk d t k) t (pts (dtk d t k) t)
theorem mL{d t:ByteArray}{k:Nat}(b:k≠0):∀x∈dtk d t k,may x=true:=λx a=>by
 unfold dtk at a;rw[A0 b] at a;exact(Px.G_may _ _ _ _ (λh=>absurd rfl h) x a).1
theorem Hh(d t:ByteArray)(k:Nat):∀x∈dtl d t k,may x=true:=λx a=>by
 unfold dtl at a;by_cases b:k=0
 · rw[A7 b] at a;exact absurd a (by simp)
 · rw[A0 b] at a;exact mL b x a
theorem vo(d t:ByteArray)(k:Nat):Chn 0 (pts (dtk d t k) t) (dtk d t k).length:=pts_chn _ _
theorem JX(d t:ByteArray)(k:Nat):Pok (dtl d t k).length t (dpl d t k):=by
 unfold dtl dpl;by_cases a:k=0
 · rw[A7 a,A7 a]
   intro b q c e;cases b with
   |nil=>simp at e;obtain⟨rfl,rfl⟩:=e;exact⟨BN 0,BN 0,by show 0+t.size<=t.size;omega,Nat.zero_le 2⟩
   |cons x b=>simp at e
 · rw[A0 a,A0 a]
   exact Gd (vo d t k) (dtk_size d t k)
theorem vm(d t:ByteArray)(k:Nat)(e:t.size<=100000):0<(dpl d t k).length/\(dpl d t k).length<=1000:=by
 unfold dpl;by_cases a:k=0
 · rw[A7 a];exact⟨by simp,by simp⟩
 · rw[A0 a]
   have b:=pts_length (dtk d t k) t;have c:=dtk_len d t k;unfold cnk at b;unfold pvs;rw[Ah];refine⟨?_,by omega⟩;unfold pts prt;simp
theorem iW(A:Option Addr)(c:Nat)(d t:ByteArray)(k:Nat):bkb (pbk A c (dtl d t k) t (dpl d t k) 0) 0=dbs d t k:=by
 unfold dtl dpl dbs sbt;by_cases a:k=0
 · rw[A7 a,A7 a,A7 a]
   have e:t.extract 0 (0+t.size)=t:=(by rw[Aa];exact Dm);simp only[pbk,bkb,Az,e];rfl
 · rw[A0 a,A0 a,A0 a]
   exact tM 0 (vo d t k)
def CutR(W:World)(d t:ByteArray)(k:Nat)(e:Ending)(w':World):Prop:=
 ∃A n c g cp,e=.returned (.tuple #[.slice A n c,.slice (some ⟨g,0,none⟩) (dpl d t k).length cp,.int .i64 0])/\IsTks w' A n (dtl d t k)/\n<=c/\Pcs w' g (dpl d t k)/\Below W.heap.size W w'
theorem cut_zero15(d t:ByteArray)(w:World)(k:t.size<=30000):Calls prog 79 #[.string d,.string t,.int .i64 0] w (CutR w d t 0):=by
 obtain⟨z,e⟩:∃z,t.size=z:=⟨_,rfl⟩
 have j:=qH (show dtl d t 0=[]/\dpl d t 0=[⟨0,0,z,0⟩] from⟨rfl,by unfold dpl;rw[A7 rfl,e]⟩);go_enter func79,ntmps79;go_wp2_with fail;go_ret3;obtain⟨b,h⟩:=j.o;unfold CutR;rw[b,h];refine⟨none,0,0,w.heap.size,1,rfl,⟨rfl,qZ,λc g=>absurd g (by simp),.inl rfl⟩,qR,⟨by simp,λi q a=> ?_⟩,qL⟩;cases i with
 |zero=>simp at a;subst a;exact⟨by simp,by simp,by simp,by simp⟩
 |succ i=>simp at a
theorem cut_of15(d t:ByteArray)(k:Nat)(w:World)(H:Tabx w)(O:1<=k/\k<=9)(Y:d.size<=100000)(U:t.size<=30000)(J:∀A c w',Tabs w'->IsTks w' A (dtk d t k).length (dtk d t k)->(dtk d t k).length<=c->(dtk d t k).length<=30000->(∀x∈dtk d t k,may x=true)->JnC A (dtk d t k).length c (dtk d t k) t w'):Calls prog 79 #[.string d,.string t,.int .i64 k] w (CutR w d t k):=by
 have i:k≠0:=(by omega);have V:((k:Int)==0)=false:=(by rw[qN];omega);have W:(k==0)=false:=(by rw[qN];omega);have Z:¬k=0:=i
 have p:=qH (show Calls prog 111 #[.string d,.string t,.int .i64 k] w (Px.TkR w (dtk d t k)) from by
  have h:=Px.tokens_any d t k w H.1 O (by omega) (by omega);unfold dtk;rw[A0 i];exact h)
 have m:=dtk_len d t k
 have j:=qH (λ(A:Option Addr) (c:Nat) (w':World) (b:Below w.heap.size w w') (F:IsTks w' A (dtk d t k).length (dtk d t k)) (C:(dtk d t k).length<=c)=>
  xT A (dtk d t k).length c (dtk d t k) t w' (H.keep b).2 F C (by omega) (by omega) (mL i) (dtk_size d t k) (λ_ _=>Fy _) (J A c w' (H.keep b).2 F C (by omega) (mL i)))
 have E:=qH (show dtl d t k=dtk d t k/\dpl d t k=pvs (dtk d t k) t (pts (dtk d t k) t) from⟨by unfold dtl;rw[A0 i],by unfold dpl;rw[A0 i]⟩);have s:=qH (vm d t k (by omega)).1;generalize z:dtk d t k=L at p j E;obtain⟨n,r⟩:∃n,L.length=n:=⟨_,rfl⟩
 rw[z,r] at m;rw[r] at j;have S:=qH r;have K:n<=30000:=(by omega);clear z H r i J;go_enter func79,ntmps79
 go_wp2_with (first
  |(go_at_call 111;(with_reducible refine p.o.mono ?_);rintro e R ⟨A,c,rfl,l,a,G⟩;rw[S.o] at l a ⊢;have q:=qH (And.intro l a);have D:=qH G;clear l a G)
  |(go_at_call 112;(with_reducible refine(j.o A c R D.o q.o.1 q.o.2).mono ?_);rintro e X ⟨v,rfl,y,u⟩;have Q:=qH y;have T:=qH (q.o.1.below u);have M:=qbt D u;clear y u))
 go_ret3;obtain⟨l,I⟩:=E.o;have B:=s.o;unfold CutR;rw[I] at B;rw[l,I];obtain⟨g,P,rfl,N⟩:=Pcs.of_owp Q.o B;exact⟨A,n,c,g,P,rfl,T.o,q.o.2,N,M.o⟩
theorem rp(A d:Option Addr)(n c a b:Nat)(s:ByteArray)(w:World):Calls prog 81 #[.slice A n c,.slice d a b,.string s] w λe w'=>
 e=.returned (.func (.func 117) #[] #[.pointer (some ⟨w.heap.size+1+1,0,none⟩),.pointer (some ⟨w.heap.size+1,0,none⟩),.pointer (some ⟨w.heap.size,0,none⟩)])/\
  w'=((w.alloc (.cells #[.slice A n c] 92)).alloc (.cells #[.slice d a b] 99)).alloc (.cells #[.string s] 9):=by
 go_enter func81,ntmps81;go_wp2;go_ret;exact⟨by simp,rfl⟩
theorem kv(A:Option Addr)(n c g d:Nat)(L:List Tk)(s:ByteArray)(b:List Pv)(most:Int)(a:World)(P:Tabs a)(S:IsTks a A n L)(i:n<=c)(hn:n<=100000)(hs:s.size<=200000)(D:b.length<=1000)(o:Pok n s b)(Z:Pcs a g b)
 (R:∀x∈L,may x=true) (C:∀q∈b,Ku q.k (seg L q.f q.t)) (j:(bkb (pbk A c L s b 0) 0).length<=50000000):
 Calls prog 80 #[.func (.func 117) #[] #[.pointer (some ⟨a.heap.size+1+1,0,none⟩),.pointer (some ⟨a.heap.size+1,0,none⟩),.pointer (some ⟨a.heap.size,0,none⟩)],.int .i64 most]
  (((a.alloc (.cells #[.slice A n c] 92)).alloc (.cells #[.slice (some ⟨g,0,none⟩) b.length d] 99)).alloc (.cells #[.string s] 9)) λe w'=>
  (Fit most (pbk A c L s b 0)->e=.returned (.tuple #[.string (c7 (nb (bkb (pbk A c L s b 0) 0)) (bkb (pbk A c L s b 0) 0).length),.int .i64 0])/\Below a.heap.size a w')/\
  (¬Fit most (pbk A c L s b 0)->e=.returned (.tuple #[.string ⟨#[]⟩,.int .i64 4])/\Below a.heap.size a w'):=by
 have b3:Below a.heap.size a (((a.alloc (.cells #[.slice A n c] 92)).alloc (.cells #[.slice (some ⟨g,0,none⟩) b.length d] 99)).alloc (.cells #[.string s] 9)):=
  ((qL).alloc (by simp) _).alloc (by simp;omega) _
 have c1:(((a.alloc (.cells #[.slice A n c] 92)).alloc (.cells #[.slice (some ⟨g,0,none⟩) b.length d] 99)).alloc (.cells #[.string s] 9)).cell? ⟨a.heap.size,0,none⟩=some (.slice A n c):=
  ((Hb.new a _ _).alloc _|>.alloc _).cell1
 have F:(((a.alloc (.cells #[.slice A n c] 92)).alloc (.cells #[.slice (some ⟨g,0,none⟩) b.length d] 99)).alloc (.cells #[.string s] 9)).cell? ⟨a.heap.size+1,0,none⟩=some (.slice (some ⟨g,0,none⟩) b.length d):=by
  have:=((Hb.new (a.alloc (.cells #[.slice A n c] 92)) 99 #[.slice (some ⟨g,0,none⟩) b.length d]).alloc (.cells #[.string s] 9)).cell1
  rwa [World.size_alloc] at this
 have G:(((a.alloc (.cells #[.slice A n c] 92)).alloc (.cells #[.slice (some ⟨g,0,none⟩) b.length d] 99)).alloc (.cells #[.string s] 9)).cell? ⟨a.heap.size+1+1,0,none⟩=some (.string s):=by
  have:=(Hb.new ((a.alloc (.cells #[.slice A n c] 92)).alloc (.cells #[.slice (some ⟨g,0,none⟩) b.length d] 99)) 9 #[.string s]).cell1
  rwa [World.size_alloc,World.size_alloc] at this
 have hz:(((a.alloc (.cells #[.slice A n c] 92)).alloc (.cells #[.slice (some ⟨g,0,none⟩) b.length d] 99)).alloc (.cells #[.string s] 9)).heap.size=a.heap.size+1+1+1:=(by simp);generalize ((a.alloc (.cells #[.slice A n c] 92)).alloc (.cells #[.slice (some ⟨g,0,none⟩) b.length d] 99)).alloc (.cells #[.string s] 9)=m at b3 c1 F G hz ⊢;have Y:∀ (args:Array Value) (w:World),(callFunc 117 args).run prog w=.ok (.enter 117 args) w:=enters_of func117 (by kernel_rfl) rfl;have u:=Z.below b3;refine(callsIn_wide.1 (qb 2 117 _ most (pbk A c L s b 0) m qR (P.keep b3) Y ?_ ?_ ?_)).mono ?_
 · intro l J Jx Jp W v hJ a0 T y hY h0
   exact rq 2 l _ _ _ m.heap.size A n c g d L s b _ (by decide) i (by omega) (by omega) D o rfl (by omega) (by omega) (by omega) u.1 W J Jx Jp hJ y hY
    ((v.cell (p:=⟨a.heap.size+1+1,0,none⟩) (by show a.heap.size+1+1<m.heap.size;omega)).trans G) ((v.cell (p:=⟨a.heap.size+1,0,none⟩) (by show a.heap.size+1<m.heap.size;omega)).trans F) ((v.cell (p:=⟨a.heap.size,0,none⟩) (by show a.heap.size<m.heap.size;omega)).trans c1)
    (u.below v).2 h0
 · intro x I
   obtain⟨q,E,X,e2,M,e4,e5⟩:=tN I;obtain⟨N,V,B⟩:=List.append_of_mem E;obtain⟨O,K,o3,Q⟩:=o N q V B;rw[X,e2,M,e4];exact⟨(S.below b3).sub i O K,by omega,by omega,Q,λ_ t U=>R t (seg_mem U),C q E⟩
 · intro H r z
   exact rA z j
 · intro e w' q
   exact⟨λh=>⟨(q.1 h).1,b3.trans ((q.1 h).2.mono b3.size)⟩,λh=>⟨(q.2 h).1,b3.trans ((q.2 h).2.mono b3.size)⟩⟩
theorem deflate_of(d t:ByteArray)(k:Nat)(most:Int)(w:World)(H:Tabx w)(W:d.size<=100000)(R:t.size<=30000)(Q:k<=9)(j:Calls prog 79 #[.string d,.string t,.int .i64 k] w (CutR w d t k)):
 Calls prog 37 #[.string d,.string t,.int .i64 k,.int .i64 most] w λe w'=>Below w.heap.size w w'/\
  ((((dbs d t k).length+7) /8:Nat)<=most->e=.returned (.tuple #[.string (dby d t k),.int .i64 0]))/\(¬(((dbs d t k).length+7) /8:Nat)<=most->e=.returned (.tuple #[.string ⟨#[]⟩,.int .i64 4])):=by
 have B:=qH j;have s:=dby_short d t k (by omega);rw[dby_size] at s;have D:bnd t.size<=100000:=(by unfold bnd;split<;>omega);have r:=vm d t k (by omega);have E:(dtl d t k).length<=30000:=by
  unfold dtl
  split
  · simp
  · have:=dtk_len d t k;omega
 have J:=qH (λ(A:Option Addr) (n c g v:Nat) (a:World) (b:Below w.heap.size w a) (F:IsTks a A n (dtl d t k)) (I:n<=c) (T:Pcs a g (dpl d t k))=>
  kv A n c g v (dtl d t k) t (dpl d t k) most a (H.keep b).2 F I (by have:=F.leng;omega) (by omega) r.2 (by have:=JX d t k;rwa [F.leng] at this) T (Hh d t k) (λq _=>xF _ _) (by rw[iW];omega))
 have M:=qH (λ(A:Option Addr) (c:Nat)=>(show Fit most (pbk A c (dtl d t k) t (dpl d t k) 0)↔(((dbs d t k).length+7) /8:Nat)<=most from by unfold Fit;rw[iW];omega));have K:=qH (λ(A P:Option Addr) (n c O U:Nat) (a:World)=>rp A P n c O U t a);generalize L:(dpl d t k).length=N at J;unfold CutR at B;rw[L] at B;clear H W R Q s D r E L j;by_cases hf:(((dbs d t k).length+7) /8:Nat)<=most
 · have i:=qH hf
   clear hf;go_enter func37,ntmps37
   go_wp2_with (first
    |(go_at_call 79;(with_reducible refine B.o.mono ?_);rintro e a ⟨A,n,c,g,v,rfl,m,p,y,x⟩;have l:=qH (And.intro m (And.intro p y));have u:=qH x;clear m p y x)
    |(go_at_call 81;(with_reducible refine(K.o A _ n c _ _ a).mono ?_);rintro e V ⟨rfl,rfl⟩)
    |(go_at_call 80;(with_reducible refine(J.o A n c g v a u.o l.o.1 l.o.2.1 l.o.2.2).mono ?_);rintro e S ⟨C,z⟩;obtain⟨rfl,b3⟩:=C ((M.o A c).2 i.o);have G:=qbt u b3;clear C z b3))
   go_ret2;exact⟨G.o,λ_=>by rw[iW];rfl,λh=>by exfalso;have:=i.o;omega⟩
 · have i:=qH hf
   clear hf;go_enter func37,ntmps37
   go_wp2_with (first
    |(go_at_call 79;(with_reducible refine B.o.mono ?_);rintro e a ⟨A,n,c,g,v,rfl,m,p,y,x⟩;have l:=qH (And.intro m (And.intro p y));have u:=qH x;clear m p y x)
    |(go_at_call 81;(with_reducible refine(K.o A _ n c _ _ a).mono ?_);rintro e V ⟨rfl,rfl⟩)
    |(go_at_call 80;(with_reducible refine(J.o A n c g v a u.o l.o.1 l.o.2.1 l.o.2.2).mono ?_);rintro e S ⟨C,z⟩;obtain⟨rfl,b3⟩:=z (λh=>by have m:=(M.o A c).1 h;have p:=i.o;omega);have G:=qbt u b3;clear C z b3))
   go_ret2;exact⟨G.o,λh=>by exfalso;have:=i.o;omega,λ_=>rfl⟩
theorem tO{A:Option Addr}{c:Nat}{L:List Tk}{s:ByteArray}(hs:s.size<=65535):∀ (l:List Pv) (o O:Nat),∀x∈bkb (pbk A c L s l o) O,x<=1
 |[],_,_,x,h=>absurd h (by simp[pbk,bkb])
 |q::r,o,O,x,h=>by
  simp only[pbk,bkb,AH] at h;rcases h with h|h
  · rw[bkm_blk (by rw[Ae];omega)] at h
    exact Ih _ _ _ _ _ x h
  · exact tO hs r _ _ x h
theorem dbs_bit(d t:ByteArray)(k:Nat)(a:t.size<=65535):∀x∈dbs d t k,x<=1:=by
 rw[<-iW none 0 d t k];exact tO a _ _ _
end V
namespace I
open Go Go.RowKit M
theorem uT(b:List UInt8)(d:Nat):∀k,V.Px.grow b d k=V.Tx.grow b d k
 |0=>rfl
 |k+1=>by simp only[V.Px.grow,V.Tx.grow,uT b d k]
theorem FH(D:Nat)(b:List UInt8)(t:V.Tk):V.Px.step D b t=V.Tx.step D b t:=by
 unfold V.Px.step V.Tx.step;rw[uT];rfl
theorem DX(D:Nat):∀ (l:List V.Tk) (b:List UInt8),V.Px.run D b l=V.Tx.run D b l
 |[],b=>rfl
 |t::l,b=>by rw[V.Px.run,V.Tx.run,FH,DX D l]
theorem kJ(b:List UInt8)(d:Nat):∀k,(V.Tx.grow b d k).take b.length=b
 |0=>BK
 |k+1=>by
  have a:=V.Tx.grow_length b d k;rw[V.Tx.grow,CO (by omega),kJ b d k]
theorem sO{D:Nat}{b:List UInt8}{t:V.Tk}(h:(V.Tx.step D b t).1=0):(V.Tx.step D b t).2.take b.length=b:=by
 rcases V.Tx.step_ways D b t with h1|⟨h1,h2⟩|⟨h1,h2,h3⟩|⟨h2,h3,h4⟩|⟨h2,h3,h4⟩
 · rw[V.Tx.step_arg h1] at h;exact absurd h (by simp)
 · rw[V.Tx.step_far h1 h2] at h;exact absurd h (by simp)
 · rw[V.Tx.step_long h1 h2 h3] at h;exact absurd h (by simp)
 · rw[V.Tx.step_byte h2 h3 h4];simp
 · rw[V.Tx.step_match h2 h3 h4];exact kJ b _ _
theorem lS{D:Nat}:∀ (l:List V.Tk) (b:List UInt8),(V.Tx.run D b l).1=0->(V.Tx.run D b l).2.take b.length=b/\(V.Tx.run D b l).2.length=b.length+V.Tx.szs l
 |[],b,_=>⟨BK,rfl⟩
 |t::l,b,h=>by
  by_cases q:(V.Tx.step D b t).1=0
  · rw[V.Tx.run_go q] at h ⊢
    obtain⟨a,c⟩:=lS l _ h;have d:=(V.Tx.step_len q).1;refine⟨sA (sO q) a (by omega),?_⟩;rw[c,d];simp only[V.Tx.szs];omega
  · rw[V.Tx.run_no q] at h;exact absurd h q
theorem lR{D:Nat}:∀ (l m:List V.Tk) (b z:List UInt8),V.Tx.run D b (l++m)=(0,z)->∃y,V.Tx.run D b l=(0,y)/\V.Tx.run D y m=(0,z)
 |[],m,b,z,h=>⟨b,rfl,h⟩
 |t::l,m,b,z,h=>by
  rw[Ac] at h;by_cases q:(V.Tx.step D b t).1=0
  · rw[V.Tx.run_go q] at h
    obtain⟨y,a,c⟩:=lR l m _ z h;exact⟨y,by rw[V.Tx.run_go q,a],c⟩
  · rw[V.Tx.run_no q] at h
    exact absurd (congrArg Prod.fst h) q
theorem FU{D:Nat}{L:List V.Tk}{b z:List UInt8}(h:V.Tx.run D b L=(0,z)){f t:Nat}(e:f<=t):V.Tx.run D (z.take (b.length+V.szt L f)) (V.seg L f t)=(0,z.take (b.length+V.szt L t)):=by
 have c:∀i,V.Tx.run D b (L.take i)=(0,z.take (b.length+V.szt L i)):=λi=>by
  have k:=h;rw[<-Bb i L] at k;obtain⟨y,a,m⟩:=lR _ _ _ _ k;obtain⟨_,j⟩:=lS (D:=D) (L.take i) b (by rw[a]);obtain⟨g,_⟩:=lS (D:=D) (L.drop i) y (by rw[m]);rw[a] at j;rw[m] at g;rw[a];unfold V.szt;rw[<-j,g]
 have a:=c t;rw[V.take_seg L e] at a;obtain⟨y,d,l⟩:=lR _ _ _ _ a;rw[c f] at d;injection d with _ d
 rw[<-d] at l;exact l
theorem Hi{d t:ByteArray}{k:Nat}(b:k≠0)(c:d.size<=32768)(f:t.size<=1000000):V.Tx.run d.size d.data.toList (V.dtk d t k)=(0,d.data.toList++t.data.toList):=by
 unfold V.dtk;rw[A0 b,V.Px.cutd_all c];have hs:(d++t).size=d.size+t.size:=AM;have h:=V.Px.run_G (d++t) (V.Px.Q.lv k) d.size (by omega) d.size (0,0) qR (by omega) (λg=>absurd rfl g);have e:V.Px.bt (d++t)=d.data.toList++t.data.toList:=by
  show(d++t).data.toList=_
  simp
 have a:d.data.toList.length=d.size:=As;rw[e,<-a,List.take_left,DX] at h;rw[<-a];exact h
section
variable {s:ByteArray} {Lim K:Nat} {Y:List Nat} {L:List V.Tk} {d t:ByteArray}
theorem za(t:ByteArray)(f g:Nat):(t.extract f g).data.toList=(t.data.toList.drop f).take (g - f):=by
 rw[DD,DE,DF]
theorem nD(d T:List UInt8)(i:Nat):(d++T).take (d.length+i)=d++T.take i:=by
 rw[List.take_append,Aj (CD _ _),Do]
theorem x9(l:List UInt8){a c:Nat}(h:a<=c):l.take a++(l.drop a).take (c - a)=l.take c:=by
 conv=>rhs;rw[show c=a+(c - a) by omega,List.take_add]
theorem E2(A:∀x∈L,V.may x=true)(z:∀x∈L,x.ok)(M:t.size<=30000)(F:V.Tx.szs L=t.size)(l:L.length<=30000)(I:100000<=K)(c:V.Tx.run d.size d.data.toList L=(0,d.data.toList++t.data.toList))(h:t.size<=Lim):
 ∀ (P:List (Nat×Nat)) (a b k:Nat) (x:St),P≠[]->V.Chn a P b->b<=L.length->P.length<k->x.2=(d.data.toList++t.data.toList).take (d.size+V.szt L a)->Bt s x.1 (V.prs L t P x.1++Y)->
  loopR (blk K) k () s d.size Lim x=.ok ((),(x.1+(V.prs L t P x.1).length,(d.data.toList++t.data.toList).take (d.size+V.szt L b)))
 |[],a,b,k,x,h0,_,_,_,_,_=>absurd rfl h0
 |q::P,_,b,k,x,_,hc,hb,hk,hx,hB=>by
  obtain⟨k,rfl⟩:∃j,k=j+1:=⟨k - 1,by simp at hk;omega⟩
  obtain⟨rfl,B,w⟩:=hc;have r:=V.Chn.le w;have g:d.data.toList.length=d.size:=As;have J:t.data.toList.length=t.size:=As;have u:=V.szt_mono L B;have G:=V.szt_mono L r;have N:V.szt L b<=t.size:=(by rw[<-F,<-V.szt_all (BN L.length)];exact V.szt_mono L hb);have n:x.2.length=d.size+V.szt L q.1:=(by rw[hx,Af,qA];omega);simp only[V.prs] at hB ⊢;rw[qD] at hB;have C:(t.extract (V.szt L q.1) (V.szt L q.2)).size<=65535:=(by rw[Ae];omega);have m:V.blq L t q P.isEmpty x.1=V.blk (V.kp L t q.1 q.2).1 (V.seg L q.1 q.2) (t.extract (V.szt L q.1) (V.szt L q.2)) P.isEmpty x.1:=(by unfold V.blq;exact V.bkm_blk C);have i:x.2++(t.extract (V.szt L q.1) (V.szt L q.2)).data.toList=(d.data.toList++t.data.toList).take (d.size+V.szt L q.2):=by
   rw[hx,za,<-g,nD,nD,qD,x9 _ u]
  have v:V.Tx.run d.size x.2 (V.seg L q.1 q.2)=(0,x.2++(t.extract (V.szt L q.1) (V.szt L q.2)).data.toList):=by
   have:=FU c B;rw[g] at this;rw[i,hx];exact this
  rw[m] at hB ⊢;have H:=V.seg_length (L:=L) (f:=q.1) (t:=q.2) (by omega);obtain⟨e,E⟩:=E4 (k:=(V.kp L t q.1 q.2).1) (K:=K) (L:=V.seg L q.1 q.2) (D:=d.size) (Lim:=Lim) (V.kd_kind _ _) (λy o=>A y (V.seg_mem o)) (λy o=>z y (V.seg_mem o)) C (by omega) (by omega) x hB (λ_=>v) (by rw[n,Ae];omega) (by omega);rw[i] at e;cases P with
  |nil=>
   obtain rfl:q.2=b:=w;simp only[V.prs,Az,List.isEmpty_nil] at e ⊢;rw[A7 trivial] at e;exact aR e
  |cons p P=>
   simp only[List.isEmpty_cons] at e E ⊢;rw[A0 (by decide)] at e;have:=E2 A z M F l I c h (p::P) q.2 b k (x.1+(V.blk (V.kp L t q.1 q.2).1 (V.seg L q.1 q.2) (t.extract (V.szt L q.1) (V.szt L q.2)) false x.1).length,(d.data.toList++t.data.toList).take (d.size+V.szt L q.2)) (by simp) w hb (by simp only[qC] at hk ⊢;omega) rfl E;rw[cu e,this];simp only[qA];rw[AC]
theorem Jb{k:Nat}(w:d.size<=32768)(v:t.size<=30000)(r:100000<=K)(f:t.size<=Lim)(h:Bt s 0 (V.dbs d t k++Y)):inf K s d.size Lim (0,d.data.toList)=.ok ((),((V.dbs d t k).length,d.data.toList++t.data.toList)):=by
 have c:d.data.toList.length=d.size:=As;obtain⟨K,rfl⟩:∃j,K=j+1:=⟨K - 1,by omega⟩
 unfold inf;by_cases i:k=0
 · have e:V.dbs d t k=V.blk 0 [] t true 0:=by unfold V.dbs V.sbt;rw[A7 i];exact V.bkm_blk (by omega)
   rw[e] at h ⊢;obtain⟨l,C⟩:=E4 (s:=s) (D:=d.size) (Lim:=Lim) (K:=K+1) (k:=0) (L:=[]) (by decide) (λy n=>by cases n) (λy n=>by cases n) (show t.size<=65535 by omega) (by omega) (by simp) (0,d.data.toList) h (λg=>absurd rfl g) (by simp only[c];omega) (by simp only;omega);rw[A7 rfl] at l;simp only[Aa] at l;exact aR l
 · have e:V.dbs d t k=V.prs (V.dtk d t k) t (V.pts (V.dtk d t k) t) 0:=by unfold V.dbs V.sbt;rw[A0 i]
   rw[e] at h ⊢;have p:=V.dtk_size d t k;have A:=V.dtk_len d t k;have u:=V.pts_length (V.dtk d t k) t;have m:V.pts (V.dtk d t k) t≠[]:=(by unfold V.pts V.prt;simp);have o:∀x∈V.dtk d t k,V.may x=true/\x.ok:=λx a=>by
    unfold V.dtk at a;rw[A0 i] at a;obtain⟨z,q,B,E⟩:=V.Px.G_may _ _ _ _ (λg=>absurd rfl g) x a;exact⟨z,q,⟨by omega,by omega⟩,⟨by omega,by omega⟩⟩
   have b:(V.pts (V.dtk d t k) t).length<K+1:=(by unfold V.cnk at u;omega);have:=E2 (s:=s) (Lim:=Lim) (K:=K+1) (λx a=>(o x a).1) (λx a=>(o x a).2) v p (by omega) r (Hi i w (by omega)) f (V.pts (V.dtk d t k) t) 0 _ (K+1) (0,d.data.toList) m (V.pts_chn _ _) qR b (by simp only[V.szt_zero,AI];rw[<-c,List.take_left]) h;rw[this,V.szt_all qR,p,Aj (by rw[qA,c];show d.size+t.data.toList.length<=_;rw[show t.data.toList.length=t.size from As];omega)];simp only[Aa]
end
theorem Ib{B:List Nat}(f:∀x∈B,x<=1)(u:ByteArray):Bt (c7 (V.nb B) B.length++u) 0 (B++[]):=by
 rw[Az];have hs:(c7 (V.nb B) B.length).size=(B.length+7) /8:=V.textR_size _ _;have b:=V.nb_lt B f;have e:(c7 (V.nb B) B.length++u).data.toList=le (V.nb B) ((B.length+7) /8)++u.data.toList:=by
  unfold c7 EP;simp
 refine⟨by rw[AM,hs];omega,f,?_⟩;have c:2^B.length<=2^(8*((B.length+7) /8)):=Ak (by decide) (by omega);have a:V.nb B%2^(8*((B.length+7) /8))=V.nb B:=Ar (Ag b c);unfold M.nb M.tx;rw[e,ca,vl_le,le_length,iX,Nat.pow_zero,Nat.div_one,a];obtain⟨r,g⟩:∃r,8*((B.length+7) /8)=B.length+r:=⟨8*((B.length+7) /8) - B.length,by omega⟩
 rw[g,AJ,Ba,Nat.add_mul_mod_self_left,Ar b]
theorem inf_dby{d t u:ByteArray}{k K Lim:Nat}(c:d.size<=32768)(e:t.size<=30000)(b:100000<=K)(a:t.size<=Lim):inf K (V.dby d t k++u) d.size Lim (0,d.data.toList)=.ok ((),((V.dbs d t k).length,d.data.toList++t.data.toList)):=
 Jb c e b a (Ib (V.dbs_bit d t k (by omega)) u)
