import Derived.Test.YthgilhebnlglkaaGreatDoorKMIfR
import Derived.Test.YthgilhebnlglkaaGreatDoorKHfF
import Derived.WalkLawsBesides
set_option linter.all false
set_option maxHeartbeats 0
set_option maxRecDepth 1000000
open Go.Proofs.Tryz
namespace Go.Proofs.YthgilhebnlglkaaGreatDoor
namespace I
open Go Go.RowKit M
theorem Hrow.of_block{w w':World}{b n:Nat}{F:Nat->Nat×Nat}(h:H.Hrow w b n F)(e:w'.heap[b]? =w.heap[b]?):H.Hrow w' b n F:=by
 obtain⟨c,a,d⟩:=h;exact⟨c,e.trans a,d⟩
theorem Hp.kept{S:Nat->Prop}{w w':World}{T p m N n f k:Nat}{G:Nat->Nat->Nat}{D:DataW Value}{l:Nat->Nat}(h:H.Hp w T p m G N D l n f k)(a:Kept S w w')(c:¬S p)(j:¬S m)(i:∀b s z,sz l n f b s n=some z->¬S (G b s)):H.Hp w' T p m G N D l n f k:=by
 refine⟨a.cell h.c0 c,a.cell h.c1 c,?_,h.dic,λb s z e=>Hrow.of_block (h.rows b s z e) (a.block _ (h.rows b s z e).lt (i b s z e)),h.one,h.apart⟩;obtain⟨g,clock,d,r⟩:=h.own;exact⟨g,clock,(a.block m (qW.1 d).1 j).trans d,r⟩
def NoT(w:World)(j:Nat):Prop:=∃v,w.cell? ⟨j,0,none⟩=some v/\∀z,v≠.int .i64 z/\v≠.int .u16 z
structure Tb(w:World)(r p:Nat)(l:Nat->Nat)(n:Nat):Prop where
 tbl:Tbl l n
 ne:p≠r
 ex:∃T m G N D f,1<=f/\f<=15/\H.Hp w T p m G N D l n f n
def Byt(w:World)(r:Nat):Prop:=∃c fz,w.heap[r]? =some (.cells c 5 fz)
theorem jr{w:World}{j:Nat}{es clock}(h:w.heap[j]? =some (.map es clock))(i:Nat):w.cell? ⟨j,i,none⟩=none:=by simp[World.cell?,h]
theorem Tb.kept{S:Nat->Prop}{w w':World}{r p n:Nat}{l:Nat->Nat}(h:Tb w r p l n)(u:Byt w r)(A:Kept S w w')(o:∀j,S j->j=r\/NoT w j):Tb w' r p l n:=by
 obtain⟨T,m,G,N,D,f,B,x,k⟩:=h.ex;have y:∃d clock,w.heap[m]? =some (.map d clock):=by
  obtain⟨d,clock,C,_⟩:=k.own;exact⟨d,clock,C⟩
 refine⟨h.tbl,h.ne,T,m,G,N,D,f,B,x,Hp.kept k A (λq=> ?_) (λq=> ?_) (λb s z e q=> ?_)⟩
 · rcases o _ q with g|⟨v,g1,g2⟩
   · exact h.ne g
   · rw[k.c0] at g1
     cases g1
     exact(g2 _).1 rfl
 · obtain⟨d,clock,e⟩:=y
   rcases o _ q with g|⟨v,g1,g2⟩
   · subst g
     obtain⟨c,fz,e'⟩:=u;rw[e] at e';cases e'
   · rw[jr e] at g1
     cases g1
 · have a:=k.rows b s z e
   rcases o _ q with g|⟨v,g1,g2⟩
   · obtain⟨c,t,_⟩:=a
     rw[g] at t;obtain⟨E,fz,e'⟩:=u;rw[t] at e';injection e' with e'
     injection e' with _ e' _
     exact absurd e' (by decide)
   · have:=a.cell1 (i:=0) (AA z)
     rw[BU,g1] at this;cases this;exact(g2 _).2 rfl
theorem Tb.lt{w:World}{r p n:Nat}{l:Nat->Nat}(h:Tb w r p l n):p<w.heap.size:=by
 obtain⟨T,m,G,N,D,f,c,b,a⟩:=h.ex;exact qB a.c0
theorem Tb.row{w:World}{r a p n:Nat}{l:Nat->Nat}(h:Tb w r p l n)(b:p≠a):Tb w a p l n:=⟨h.tbl,b,h.ex⟩
def Md(w:World)(r:Nat)(v3 v4:Value):Prop:=(v3=.pointer none/\v4=.pointer none)\/∃p1 p2,v3=.pointer (some ⟨p1,0,none⟩)/\v4=.pointer (some ⟨p2,0,none⟩)/\Tb w r p1 fx 288/\Tb w r p2 (λ_=>5) 32
structure In(w:World)(B g q r:Nat)(s:ByteArray)(D L:Nat)(x:St):Prop where
 gb:B<=g
 rb:B<=r
 qr:q≠r
 rd:Rd w B q s x.1
 row:∃cp v3 v4,w.heap[g]? =some (.cells #[.pointer (some ⟨q,0,none⟩),.slice (some ⟨r,0,none⟩) x.2.length cp,.int .i64 ((L:Int) - ((x.2.length - D:Nat):Int)),v3,v4] 179 (0,0))/\Ry w r cp x.2/\Md w r v3 v4
 dl:D<=x.2.length
 ll:x.2.length - D<=L
def Ch(g q r:Nat):Nat->Prop:=λj=>j=g\/j=q\/j=r
def flt(c:Nat):List PanicEntry:=[{v:=.iface 171 (.agg #[.int .i64 c]),recovered:=false}]
section
variable {w w':World} {B g q r D L:Nat} {s:ByteArray} {x:St}
theorem In.cells(h:In w B g q r s D L x):∃a b v4,w.cell? ⟨g,0,none⟩=some (.pointer (some ⟨q,0,none⟩))/\w.cell? ⟨g,1,none⟩=some (.slice (some ⟨r,0,none⟩) x.2.length a)/\w.cell? ⟨g,2,none⟩=some (.int .i64 ((L:Int) - ((x.2.length - D:Nat):Int)))/\
 w.cell? ⟨g,3,none⟩=some b/\w.cell? ⟨g,4,none⟩=some v4/\(∀i,w.frozen? ⟨g,i,none⟩=false)/\Ry w r a x.2/\Md w r b v4:=by
 obtain⟨a,b,v4,c,e,d⟩:=h.row;refine⟨a,b,v4,?_,?_,?_,?_,?_,λi=> ?_,e,d⟩<;>simp[World.cell?,World.frozen?,c]
theorem In.glt(h:In w B g q r s D L x):g<w.heap.size:=by
 obtain⟨b,f,d,a,e,c⟩:=h.row;exact(qW.1 a).1
theorem In.byt(h:In w B g q r s D L x):Byt w r:=by
 obtain⟨c,f,e,b,a,d⟩:=h.row;exact a.typ
theorem In.rlt(h:In w B g q r s D L x):r<w.heap.size:=by
 obtain⟨c,f,e,b,a,d⟩:=h.row;exact a.lt
theorem In.gr(h:In w B g q r s D L x):g≠r:=by
 obtain⟨d,j,i,a,b,f⟩:=h.row;obtain⟨c,fz,e⟩:=b.typ;intro q;subst q;rw[a] at e;injection e with e
 injection e with _ e _
 exact absurd e (by decide)
theorem In.ng(h:In w B g q r s D L x):NoT w g:=by
 obtain⟨c,d,b,a,_⟩:=h.cells;exact⟨_,a,λz=>⟨λe=>(by cases e),λe=>(by cases e)⟩⟩
theorem In.nq(h:In w B g q r s D L x):NoT w q:=⟨_,h.rd.c0,λz=>⟨λe=>(by cases e),λe=>(by cases e)⟩⟩
theorem In.gq(h:In w B g q r s D L x):g≠q:=by
 obtain⟨c,d,b,a,_⟩:=h.cells;intro e;subst e;rw[h.rd.c0] at a;cases a
theorem In.chs(h:In w B g q r s D L x):∀j,Ch g q r j->j=r\/NoT w j:=λj a=>by
 rcases a with rfl|rfl|rfl
 · exact .inr h.ng
 · exact .inr h.nq
 · exact .inl rfl
theorem In.tb{p n:Nat}{l:Nat->Nat}(h:In w B g q r s D L x)(b:Tb w r p l n)(a:Kept (Ch g q r) w w'):Tb w' r p l n:=b.kept h.byt a h.chs
theorem Md.kept{S:Nat->Prop}{d v4:Value}(h:Md w r d v4)(a:Byt w r)(c:Kept S w w')(b:∀j,S j->j=r\/NoT w j):Md w' r d v4:=by
 rcases h with h|⟨p1,p2,e1,e2,t1,t2⟩
 · exact .inl h
 · exact .inr ⟨p1,p2,e1,e2,t1.kept a c b,t2.kept a c b⟩
theorem In.same(h:In w B g q r s D L x)(a:Kept NoB w w'):In w' B g q r s D L x:=by
 obtain⟨d,j,i,c,b,f⟩:=h.row;exact⟨h.gb,h.rb,h.qr,h.rd.same a,⟨d,j,i,(a.block g h.glt (λe=>e)).trans c,b.kept a (λe=>e),f.kept b.typ a (λ_ e=>e.elim)⟩,h.dl,h.ll⟩
theorem In.below(h:In w B g q r s D L x)(a:Below w.heap.size w w'):In w' B g q r s D L x:=h.same (Kept.of_below a)
theorem In.read(h:In w B g q r s D L x){a:Nat}(b:Kept (λj=>j=q) w w')(l:Rd w' B q s a):In w' B g q r s D L (a,x.2):=by
 obtain⟨f,m,k,d,c,i⟩:=h.row;exact⟨h.gb,h.rb,h.qr,l,⟨f,m,k,(b.block g h.glt h.gq).trans d,c.kept b (λe=>h.qr e.symm),i.kept c.typ b (λj e=> .inr (by rw[e];exact h.nq))⟩,h.dl,h.ll⟩
end
structure Res(w:World)(B g q r:Nat)(s:ByteArray)(D L:Nat)(y:St)(w':World):Prop where
 kept:Kept (Ch g q r) w w'
 ex:∃r',(r'=r\/w.heap.size<=r')/\In w' B g q r' s D L y
def Out{α:Type}(w:World)(B g q r:Nat)(s:ByteArray)(D L:Nat)(res:Except Nat (α×St))(V:α->Ending->World->Prop)(e:Ending)(w':World):Prop:=
 match res with
 |.ok p=>V p.1 e w'/\Res w B g q r s D L p.2 w'
 |.error c=>e=.panicked (flt c)/\Kept (Ch g q r) w w'
def ax(a:Nat)(e:Ending)(_:World):Prop:=e=.returned (.int .i64 a)
def dm{α:Type}(_:α)(e:Ending)(_:World):Prop:=e=.returned (.tuple #[])
theorem fG(c:Nat)(w:World):Calls prog 171 #[.int .i64 c] w λe w'=>e=.panicked (flt c)/\Kept NoB w w':=by
 go_enter func171,ntmps171;go_wp2;exact⟨rfl,rfl,by first|exact Kept.refl _ _|exact(Kept.refl _ _).alloc _⟩
theorem eT(w:World):Calls prog 208 #[.int .i64 0] w λe w'=>e=.returned (.tuple #[])/\w=w':=by
 go_enter func208,ntmps208;go_wp2;go_end0;exact⟨rfl,rfl⟩
theorem zm(c:Nat)(i:c≠0)(w:World):Calls prog 208 #[.int .i64 c] w λe w'=>e=.panicked (flt c)/\Kept NoB w w':=by
 have b:=qH (λw=>fG c w);have h:((c:Int) !=0)=true:=(by rw[AQ];omega);go_enter func208,ntmps208;go_wp2_with (go_at_call 171;(with_reducible refine(b.o _).mono ?_);rintro e j ⟨rfl,a⟩;have d:=qH a;clear a);exact⟨rfl,rfl,d.o⟩
theorem mR(w:World):Calls prog 208 #[.int .i64 6] w λe w'=>e=.panicked (flt 6)/\Kept NoB w w':=zm 6 (by decide) w
section
variable {w:World} {B g q r D L:Nat} {s:ByteArray} {x:St}
theorem In.res(h:In w B g q r s D L x){w':World}{y:St}(b:Kept (Ch g q r) w w')(a:In w' B g q r s D L y):Res w B g q r s D L y w':=⟨b,r,.inl rfl,a⟩
theorem kq{w':World}(a:Kept (λj=>j=q) w w'):Kept (Ch g q r) w w':=a.mono λj e=> .inr (.inl e)
theorem bZ(h:In w B g q r s D L x)(hs:s.size<=100000)(n:Nat)(H:n<=16):Calls prog 166 #[.pointer (some ⟨g,0,none⟩),.int .i64 n] w (Out w B g q r s D L (bits n s D L x) ax):=by
 obtain⟨N,J,I,c0,c1,p,v,t,j,m,k⟩:=h.cells;have u:=qH h;by_cases hf:x.1+n<=8*s.size
 · have e:bits n s D L x=.ok (M.nb s x.1 n,(x.1+n,x.2)):=by unfold bits;rw[A7 hf]
   rw[e];have b:=qH (tu h.rd (by omega) n (by omega) (by omega));have i:M.nb s x.1 n<=65535:=by
    have K:=M.nb_lt s x.1 n;have O:2^n<=2^16:=Ak (by decide) H;omega
   generalize G:M.nb s x.1 n=z at b i ⊢;clear h m k c1 p v t j e hf G;go_enter func166,ntmps166
   go_wp2_with (first
    |(go_at_call 207;(with_reducible refine b.o.mono ?_);rintro e C ⟨rfl,d,a⟩;obtain⟨E,c⟩:=qh2 d a;clear d a)
    |(go_at_call 208;(with_reducible refine(eT _).mono ?_);rintro e F ⟨rfl,rfl⟩))
   go_ret;exact⟨rfl,u.o.res (kq c.o) (u.o.read c.o E.o)⟩
 · have e:bits n s D L x=.error 6:=by unfold bits;rw[A0 hf]
   rw[e];have b:=qH (tv h.rd (by omega) (n:Int) (by omega) (by omega) (by omega));have A:=qH mR;clear h m k c1 p v t j e hf;go_enter func166,ntmps166
   go_wp2_with (first
    |(go_at_call 207;(with_reducible refine b.o.mono ?_);rintro e C ⟨rfl,d,a⟩;have c:=qH a;clear d a)
    |(go_at_call 208;(with_reducible refine(A.o _).mono ?_);rintro e F ⟨rfl,l⟩;have y:=qH l;clear l))
   exact⟨rfl,rfl,(kq c.o).trans y.o (λ_ e=>e.elim)⟩
end
section
variable {w:World} {B g q r D L:Nat} {s:ByteArray} {x:St}
theorem ji(w:World):Calls prog 171 #[.int .i64 163] w λe w'=>e=.panicked (flt 163)/\Kept NoB w w':=fG 163 w
theorem JU(w:World):Calls prog 171 #[.int .i64 5] w λe w'=>e=.panicked (flt 5)/\Kept NoB w w':=fG 5 w
theorem z7(w:World):Calls prog 171 #[.int .i64 164] w λe w'=>e=.panicked (flt 164)/\Kept NoB w w':=fG 164 w
theorem bF(w:World):Calls prog 171 #[.int .i64 162] w λe w'=>e=.panicked (flt 162)/\Kept NoB w w':=fG 162 w
theorem z8(w:World):Calls prog 171 #[.int .i64 161] w λe w'=>e=.panicked (flt 161)/\Kept NoB w w':=fG 161 w
theorem z9(w:World):Calls prog 171 #[.int .i64 160] w λe w'=>e=.panicked (flt 160)/\Kept NoB w w':=fG 160 w
theorem uV(l:Nat->Nat)(n a:Nat)(s:ByteArray):H.gnext l n s a=if(lok l n s a).2.2=0 then((lok l n s a).1,0,a+(lok l n s a).2.1) else(0,(lok l n s a).2.2,a):=rfl
theorem tZ(h:In w B g q r s D L x)(hs:s.size<=100000){p n:Nat}{l:Nat->Nat}(c:Tb w r p l n):Calls prog 215 #[.pointer (some ⟨g,0,none⟩),.pointer (some ⟨p,0,none⟩)] w (Out w B g q r s D L (nxt l n s D L x) ax):=by
 obtain⟨cp,v3,v4,c0,c1,F,J,I,A,E,C⟩:=h.cells;have P:=qH h;have hf:=c.tbl.fit;obtain⟨T,m,G,N,Q,f,R,Y,j⟩:=c.ex;have a:=H.hnext_kept T p m N n f G Q l w B q x.1 s hf R Y (λw' U=>by
  obtain⟨es,clock,V,r⟩:=j.own;refine Hp.kept j U (λe=> ?_) (λe=> ?_) (λb S z e2 e=> ?_)
  · have:=j.c0
    rw[e,h.rd.c0] at this;cases this
  · have:=h.rd.c0
    rw[<-e,jr V] at this;cases this
  · have:=(j.rows b S z e2).cell1 (i:=0) (AA z)
    rw[BU,e,h.rd.c0] at this;cases this) h.rd (by omega)
 rw[uV] at a;rcases eO (l:=l) (n:=n) (X:=M.nb s x.1 (min 15 (8*s.size - x.1))) (h:=min 15 (8*s.size - x.1)) hf with⟨i,i1,i2,i3,W,i5⟩|i5|i5
 · have e:nxt l n s D L x=.ok (i,(x.1+l i,x.2)):=by
    unfold nxt;rw[A7 c.tbl,show lok l n s x.1=(i,l i,0) from i5,A7 rfl]
   rw[e];rw[show lok l n s x.1=(i,l i,0) from i5,A7 rfl] at a;have v:=qH (show Calls prog 260 #[.pointer (some ⟨p,0,none⟩),.pointer (some ⟨q,0,none⟩)] w (Got w B q s (.tuple #[.int .i64 i,.int .i64 0]) (x.1+l i)) from a);clear h E C c1 F J I A e a j c i5 W;go_enter func215,ntmps215
   go_wp2_with (first
    |(go_at_call 260;(with_reducible refine v.o.mono ?_);rintro e K ⟨rfl,t,d⟩;obtain⟨Z,k⟩:=qh2 t d;clear t d)
    |(go_at_call 208;(with_reducible refine(eT _).mono ?_);rintro e O ⟨rfl,rfl⟩))
   go_ret;exact⟨rfl,P.o.res (kq k.o) (P.o.read k.o Z.o)⟩
 · have e:nxt l n s D L x=.error 6:=by
    unfold nxt;rw[A7 c.tbl,show lok l n s x.1=(0,0,6) from i5];rfl
   rw[e];rw[show lok l n s x.1=(0,0,6) from i5,A0 (by decide)] at a;have v:=qH (show Calls prog 260 #[.pointer (some ⟨p,0,none⟩),.pointer (some ⟨q,0,none⟩)] w (Got w B q s (.tuple #[.int .i64 0,.int .i64 6]) x.1) from a);clear h E C c1 F J I A e a j c i5;go_enter func215,ntmps215
   go_wp2_with (first
    |(go_at_call 260;(with_reducible refine v.o.mono ?_);rintro e K ⟨rfl,t,d⟩;have k:=qH d;clear t d)
    |(go_at_call 208;(with_reducible refine(mR _).mono ?_);rintro e O ⟨rfl,u⟩;have y:=qH u;clear u))
   exact⟨rfl,rfl,(kq k.o).trans y.o (λ_ e=>e.elim)⟩
 · have e:nxt l n s D L x=.error 163:=by
    unfold nxt;rw[A7 c.tbl,show lok l n s x.1=(0,0,7) from i5];rfl
   rw[e];rw[show lok l n s x.1=(0,0,7) from i5,A0 (by decide)] at a;have v:=qH (show Calls prog 260 #[.pointer (some ⟨p,0,none⟩),.pointer (some ⟨q,0,none⟩)] w (Got w B q s (.tuple #[.int .i64 0,.int .i64 7]) x.1) from a);clear h E C c1 F J I A e a j c i5;go_enter func215,ntmps215
   go_wp2_with (first
    |(go_at_call 260;(with_reducible refine v.o.mono ?_);rintro e K ⟨rfl,t,d⟩;have k:=qH d;clear t d)
    |(go_at_call 171;(with_reducible refine(ji _).mono ?_);rintro e O ⟨rfl,u⟩;have y:=qH u;clear u))
   exact⟨rfl,rfl,(kq k.o).trans y.o (λ_ e=>e.elim)⟩
theorem take_no(h:In w B g q r s D L x){k:Nat}(u:k<=100000000)(l:L<x.2.length - D+k):Calls prog 212 #[.pointer (some ⟨g,0,none⟩),.int .i64 k] w λe w'=>e=.panicked (flt 5)/\Kept NoB w w':=by
 obtain⟨v,A,y,c0,c1,n,p,c,m,d,i⟩:=h.cells;obtain⟨Y,b⟩:∃Y:Int,(L:Int) - ((x.2.length - D:Nat):Int)=Y:=⟨_,rfl⟩
 rw[b] at n;have t:decide (Y<(k:Int))=true:=q9T (by omega);clear h d i c0 c1 p c m b l;go_enter func212,ntmps212;go_wp2_with (go_at_call 171;(with_reducible refine(JU _).mono ?_);rintro e z ⟨rfl,a⟩;have j:=qH a;clear a);exact⟨rfl,rfl,j.o⟩
theorem take_yes(h:In w B g q r s D L x){k:Nat}(b:L<=1000000000)(t:¬L<x.2.length - D+k):Calls prog 212 #[.pointer (some ⟨g,0,none⟩),.int .i64 k] w λe w'=>e=.returned (.tuple #[])/\w'=w.setCell ⟨g,2,none⟩ (.int .i64 ((L:Int) - ((x.2.length - D+k:Nat):Int))):=by
 obtain⟨z,C,A,c0,c1,u,v,j,i,l,n⟩:=h.cells;have a:=h.ll;have p:=i 2;obtain⟨Y,d⟩:∃Y:Int,(L:Int) - ((x.2.length - D:Nat):Int)=Y:=⟨_,rfl⟩
 obtain⟨Z,c⟩:∃Z:Int,(L:Int) - ((x.2.length - D+k:Nat):Int)=Z:=⟨_,rfl⟩
 rw[d] at u;rw[c];have y:decide (Y<(k:Int))=false:=qF (by omega);have m:Y - (k:Int)=Z:=(by omega);have o:0<=Z/\Z<=1000000000:=(by omega);clear h l n c0 c1 v j i d c a t b;go_enter func212,ntmps212;go_wp2;go_end0;exact⟨rfl,rfl⟩
end
theorem xk{d:Array Oper}{o:Oper}{a:Act}{w:World}{K:Act->World->Prop}{Q:Exit->Act->World->Prop}{E:Prop}(i:o.guard=none)(s x:Operand)
 (C:o.op=.call {callee:=.builtin .append,args:= #[s,x],argTypes:= #[26,26]}) (g n j:Nat) (f:List UInt8) (hs:a.eval s=.slice (some ⟨g,0,none⟩) n j) (h:Ry w g j f) (l:f.length=n)
 (k:Addr) (c:Nat) (u:UInt8) (m:a.eval x=.slice (some k) 1 c) (I:w.cell? k=some (.int .u8 (u.toNat:Int))) (y:n<=1000000000)
 (A:∀g' b w',Ry w' g' b (f++[u])->w.grownBy w' (some g)->(g'=g\/w.heap.size<=g')->K (a.put o.dst (.slice (some ⟨g',0,none⟩) (n+1) b)) w'):
 if Region.wanted o (yielded d a.tmps)=true then Oper.wp prog o a w K Q else E:=by
 have G:Region.wanted o (yielded d a.tmps)=true:=(by simp[Region.wanted,i]);rw[A7 G];obtain⟨v,w',F,g',b,rfl,H,z,p⟩:=sY w o.type g n j f h l k c u I y;unfold Oper.wp execOp;simp only[C,resolve,invoke,builtin,Sem.run_bind,Sem.run_pure,Result.andThen_ok,AV,Al,Av,hs,m,F];have e:(f++[u]).length=n+1:=(by rw[qA,l];rfl);rw[e];exact A g' b w' H z p
theorem pS{f:Array Oper}{d:List Oper}{o:Oper}{a:Act}{w:World}{Q:Exit->Act->World->Prop}(j:o.guard=none)(s x:Operand)
 (F:o.op=.call {callee:=.builtin .append,args:= #[s,x],argTypes:= #[26,26]}) (g n k:Nat) (i:List UInt8) (hs:a.eval s=.slice (some ⟨g,0,none⟩) n k) (h:Ry w g k i) (p:i.length=n)
 (m:Addr) (c:Nat) (u:UInt8) (y:a.eval x=.slice (some m) 1 c) (I:w.cell? m=some (.int .u8 (u.toNat:Int))) (A:n<=1000000000)
 (E:∀g' b w',Ry w' g' b (i++[u])->w.grownBy w' (some g)->(g'=g\/w.heap.size<=g')->wpList prog f Q d (a.put o.dst (.slice (some ⟨g',0,none⟩) (n+1) b)) w'):wpList prog f Q (o::d) a w:=
 wpList_plain j λK l=>by
  obtain⟨v,w',G,g',b,rfl,H,C,z⟩:=sY w o.type g n k i h p m c u I A;unfold Oper.wp execOp;simp only[F,resolve,invoke,builtin,Sem.run_bind,Sem.run_pure,Result.andThen_ok,AV,Al,Av,hs,y,G];have e:(i++[u]).length=n+1:=(by rw[qA,p];rfl);rw[e];exact l _ _ (E g' b w' H C z)
theorem pQ{d:Array Oper}{c:List Oper}{o:Oper}{a:Act}{w:World}{Q:Exit->Act->World->Prop}(f:o.guard=none)(s x:Operand)
 (u:o.op=.call {callee:=.builtin .append,args:= #[s,x],argTypes:= #[26,9]}) (g n i:Nat) (e:List UInt8) (hs:a.eval s=.slice (some ⟨g,0,none⟩) n i) (h:Ry w g i e) (C:e.length=n)
 (t:ByteArray) (k:a.eval x=.string t) (m:n+t.size<=10000000000)
 (A:∀g' b w',Ry w' g' b (e++t.data.toList)->w.grownBy w' (some g)->(g'=g\/w.heap.size<=g')->wpList prog d Q c (a.put o.dst (.slice (some ⟨g',0,none⟩) (e++t.data.toList).length b)) w'):wpList prog d Q (o::c) a w:=
 wpList_plain f λK j=>by
  obtain⟨v,w',y,g',b,rfl,z,p,l⟩:=FV w o.type g n i e h C t m;unfold Oper.wp execOp;simp only[u,resolve,invoke,builtin,Sem.run_bind,Sem.run_pure,Result.andThen_ok,AV,Al,Av,hs,k,y];exact j _ _ (A g' b w' z p l)
structure Ir(w:World)(B g q r:Nat)(s:ByteArray)(Z:Int)(cp:Nat)(x:St):Prop where
 gb:B<=g
 rb:B<=r
 qr:q≠r
 rd:Rd w B q s x.1
 row:∃v3 v4,w.heap[g]? =some (.cells #[.pointer (some ⟨q,0,none⟩),.slice (some ⟨r,0,none⟩) x.2.length cp,.int .i64 Z,v3,v4] 179 (0,0))/\Md w r v3 v4
 ry:Ry w r cp x.2
section
variable {w w':World} {B g q r D L cp:Nat} {s:ByteArray} {x:St} {Z:Int}
theorem In.ir(h:In w B g q r s D L x):∃cp,Ir w B g q r s ((L:Int) - ((x.2.length - D:Nat):Int)) cp x:=by
 obtain⟨cp,e,c,a,d,b⟩:=h.row;exact⟨cp,h.gb,h.rb,h.qr,h.rd,⟨e,c,a,b⟩,d⟩
theorem Ir.in_(h:Ir w B g q r s Z cp x)(f:Z=(L:Int) - ((x.2.length - D:Nat):Int))(b:D<=x.2.length)(e:x.2.length - D<=L):In w B g q r s D L x:=by
 obtain⟨i,d,a,c⟩:=h.row;subst f;exact⟨h.gb,h.rb,h.qr,h.rd,⟨cp,i,d,a,h.ry,c⟩,b,e⟩
theorem Ir.cells(h:Ir w B g q r s Z cp x):w.cell? ⟨g,0,none⟩=some (.pointer (some ⟨q,0,none⟩))/\w.cell? ⟨g,1,none⟩=some (.slice (some ⟨r,0,none⟩) x.2.length cp)/\(∀i,w.frozen? ⟨g,i,none⟩=false):=by
 obtain⟨c,b,a,d⟩:=h.row;refine⟨?_,?_,λi=> ?_⟩<;>simp[World.cell?,World.frozen?,a]
theorem Ir.glt(h:Ir w B g q r s Z cp x):g<w.heap.size:=by
 obtain⟨c,b,a,d⟩:=h.row;exact(qW.1 a).1
theorem Ir.gr(h:Ir w B g q r s Z cp x):g≠r:=by
 obtain⟨d,b,a,f⟩:=h.row;obtain⟨c,fz,e⟩:=h.ry.typ;intro q;subst q;rw[a] at e;injection e with e
 injection e with _ e _
 exact absurd e (by decide)
theorem Ir.ng(h:Ir w B g q r s Z cp x):NoT w g:=⟨_,h.cells.1,λz=>⟨λe=>(by cases e),λe=>(by cases e)⟩⟩
theorem Ir.gq(h:Ir w B g q r s Z cp x):g≠q:=by
 intro e;have:=h.cells.1;rw[e,h.rd.c0] at this;cases this
theorem Ir.setZ(h:Ir w B g q r s Z cp x)(Y:Int):Ir (w.setCell ⟨g,2,none⟩ (.int .i64 Y)) B g q r s Y cp x/\Kept (λj=>j=g) w (w.setCell ⟨g,2,none⟩ (.int .i64 Y)):=by
 obtain⟨f,d,b,c⟩:=h.row;have a:Kept (λj=>j=g) w (w.setCell ⟨g,2,none⟩ (.int .i64 Y)):=(Kept.refl (λj=>j=g) w).setCell ⟨g,2,none⟩ (.inl rfl) _;refine⟨⟨h.gb,h.rb,h.qr,h.rd.keep a (λe=>h.gq e.symm),⟨f,d,?_,c.kept h.ry.typ a (λj e=> .inr (by rw[e];exact h.ng))⟩,h.ry.kept a (λe=>h.gr e.symm)⟩,a⟩;rw[setCell_eq_setRow w g 2 _ _ _ _ b,setRow_heap w g _ _ _ _ b];rfl
theorem Ir.app(h:Ir w B g q r s Z cp x){A w2:World}(J:Kept NoB w A){l:List UInt8}{g' d:Nat}(K:Ry w2 g' d (x.2++l))(M:A.grownBy w2 (some r))(O:g'=r\/A.heap.size<=g'){n:Nat}(S:n=(x.2++l).length):
 Ir (w2.setCell ⟨g,1,none⟩ (.slice (some ⟨g',0,none⟩) n d)) B g q g' s Z d (x.1,x.2++l)/\Kept (Ch g q r) w (w2.setCell ⟨g,1,none⟩ (.slice (some ⟨g',0,none⟩) n d))/\(g'=r\/w.heap.size<=g'):=by
 subst S;obtain⟨v,v4,P,I⟩:=h.row;have G:=h.glt;have N:=h.rd.lt;have Q:=J.size;have c:g'=r\/w.heap.size<=g':=O.imp id (λe=>by omega);have p:Kept (λj=>j=r) w w2:=(J.none _).grown M (λk e=>by cases e;exact .inl rfl);have y:g'≠g:=(by rcases c with e|e;exact λq=>h.gr (by rw[<-q,e]);omega);have i:q≠g':=(by rcases c with e|e;exact λq=>h.qr (by rw[q,e]);omega);have F:w2.heap[g]? =_:=(p.block g G h.gr).trans P;have f:Kept (λj=>j=g) w2 (w2.setCell ⟨g,1,none⟩ (.slice (some ⟨g',0,none⟩) (x.2++l).length d)):=(Kept.refl (λj=>j=g) w2).setCell ⟨g,1,none⟩ (.inl rfl) _;have t:Md w2 r v v4:=I.kept h.ry.typ p (λj e=> .inl e);have R:B<=g':=(by rcases c with e|e;rw[e];exact h.rb;have:=h.rb;have:=h.ry.lt;omega);have E:Md w2 g' v v4:=by
  rcases t with q|⟨p1,p2,q1,q2,t1,t2⟩
  · exact .inl q
  · refine .inr ⟨p1,p2,q1,q2,?_,?_⟩
    · refine t1.row ?_
      rcases c with e|e
      · rw[e];exact t1.ne
      · rcases I with⟨q,_⟩|⟨C,u,a,b,m,o⟩
        · rw[q1] at q;cases q
        · rw[q1] at a;injection a with a;injection a with a;injection a with a;have:=m.lt;omega
    · refine t2.row ?_
      rcases c with e|e
      · rw[e];exact t2.ne
      · rcases I with⟨_,q⟩|⟨C,u,a,b,m,o⟩
        · rw[q2] at q;cases q
        · rw[q2] at b;injection b with b;injection b with b;injection b with b;have:=o.lt;omega
 have H:NoT w2 g:=⟨.pointer (some ⟨q,0,none⟩),by simp[World.cell?,F],λz=>⟨λe=>(by cases e),λe=>(by cases e)⟩⟩;refine⟨⟨h.gb,R,i,(h.rd.keep p h.qr).keep f (λe=>h.gq e.symm),⟨v,v4,?_,E.kept K.typ f (λj e=> .inr (by rw[e];exact H))⟩,K.kept f y⟩,?_,c⟩
 · rw[setCell_eq_setRow w2 g 1 _ _ _ _ F,setRow_heap w2 g _ _ _ _ F]
   rfl
 · exact(p.mono (λj e=> .inr (.inr e))).trans f (λj e=> .inl (.inl e))
