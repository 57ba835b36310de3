import Derived.Test.YthgilhebnlglkaaGreatDoorEMIfR
import Derived.Test.YthgilhebnlglkaaGreatDoorEHfF
import Derived.WalkLawsBesides
set_option linter.all false
set_option maxHeartbeats 8000000
set_option maxRecDepth 1000000
open Go.Proofs.Tryz
namespace Go.Proofs.YthgilhebnlglkaaGreatDoor.I
open Go Go.RowKit M
theorem Hrow.of_block{w w':World}{b n:Nat}{F:Nat->Nat×Nat}(h:H.Hrow w b n F)(e:w'.heap[b]? =w.heap[b]?):H.Hrow w' b n F:=by
 obtain⟨c,h1,h2⟩:=h;exact⟨c,e.trans h1,h2⟩
theorem Hp.kept{S:Nat->Prop}{w w':World}{T p m N n f k:Nat}{G:Nat->Nat->Nat}{D:DataW Value}{l:Nat->Nat}(h:H.Hp w T p m G N D l n f k)(hk:Kept S w w')(h1:¬S p)(h2:¬S m)(h3:∀b s z,sz l n f b s n=some z->¬S (G b s)):H.Hp w' T p m G N D l n f k:=by
 refine⟨hk.cell h.c0 h1,hk.cell h.c1 h1,?_,h.dic,λb s z e=>Hrow.of_block (h.rows b s z e) (hk.block _ (h.rows b s z e).lt (h3 b s z e)),h.one,h.apart⟩;obtain⟨es,clock,e1,r⟩:=h.own;exact⟨es,clock,(hk.block m (qW.1 e1).1 h2).trans e1,r⟩
def NoT(w:World)(j:Nat):Prop:=∃v,w.cell? ⟨j,0,none⟩=some v/\∀z,v≠.int .i64 z/\v≠.int .u16 z
structure Tb(w:World)(r p:Nat)(l:Nat->Nat)(n:Nat):Prop where
 tbl:Tbl l n
 ne:p≠r
 ex:∃T m G N D f,1<=f/\f<=15/\H.Hp w T p m G N D l n f n
def Byt(w:World)(r:Nat):Prop:=∃c fz,w.heap[r]? =some (.cells c 5 fz)
theorem z4S{w:World}{j:Nat}{es clock}(h:w.heap[j]? =some (.map es clock))(i:Nat):w.cell? ⟨j,i,none⟩=none:=by simp[World.cell?,h]
theorem Tb.kept{S:Nat->Prop}{w w':World}{r p n:Nat}{l:Nat->Nat}(h:Tb w r p l n)(hr:Byt w r)(hk:Kept S w w')(hS:∀j,S j->j=r\/NoT w j):Tb w' r p l n:=by
 obtain⟨T,m,G,N,D,f,f1,f2,hp⟩:=h.ex;have hm:∃es clock,w.heap[m]? =some (.map es clock):=by
  obtain⟨es,clock,e1,_⟩:=hp.own;exact⟨es,clock,e1⟩
 refine⟨h.tbl,h.ne,T,m,G,N,D,f,f1,f2,Hp.kept hp hk (λq=> ?_) (λq=> ?_) (λb s z e q=> ?_)⟩
 · rcases hS _ q with g|⟨v,g1,g2⟩
   · exact h.ne g
   · rw[hp.c0] at g1
     cases g1
     exact(g2 _).1 rfl
 · obtain⟨es,clock,e⟩:=hm
   rcases hS _ q with g|⟨v,g1,g2⟩
   · subst g
     obtain⟨c,fz,e'⟩:=hr;rw[e] at e';cases e'
   · rw[z4S e] at g1
     cases g1
 · have hrow:=hp.rows b s z e
   rcases hS _ q with g|⟨v,g1,g2⟩
   · obtain⟨c,h1,_⟩:=hrow
     rw[g] at h1;obtain⟨c',fz,e'⟩:=hr;rw[h1] at e';injection e' with e'
     injection e' with _ e' _
     exact absurd e' (by decide)
   · have:=hrow.cell1 (i:=0) (Nat.two_pow_pos z)
     rw[Nat.zero_mul,g1] at this;cases this;exact(g2 _).2 rfl
theorem Tb.lt{w:World}{r p n:Nat}{l:Nat->Nat}(h:Tb w r p l n):p<w.heap.size:=by
 obtain⟨T,m,G,N,D,f,f1,f2,hp⟩:=h.ex;exact qB hp.c0
theorem Tb.row{w:World}{r r' p n:Nat}{l:Nat->Nat}(h:Tb w r p l n)(hr:p≠r'):Tb w r' p l n:=⟨h.tbl,hr,h.ex⟩
def Md(w:World)(r:Nat)(v3 v4:Value):Prop:=(v3=.pointer none/\v4=.pointer none)\/∃p1 p2,v3=.pointer (some ⟨p1,0,none⟩)/\v4=.pointer (some ⟨p2,0,none⟩)/\Tb w r p1 fx 288/\Tb w r p2 (λ_=>5) 32
structure In(w:World)(B g q r:Nat)(s:ByteArray)(D L:Nat)(x:St):Prop where
 gb:B<=g
 rb:B<=r
 qr:q≠r
 rd:Rd w B q s x.1
 row:∃cp v3 v4,w.heap[g]? =some (.cells #[.pointer (some ⟨q,0,none⟩),.slice (some ⟨r,0,none⟩) x.2.length cp,.int .i64 ((L:Int) - ((x.2.length - D:Nat):Int)),v3,v4] 179 (0,0))/\Ry w r cp x.2/\Md w r v3 v4
 dl:D<=x.2.length
 ll:x.2.length - D<=L
def Ch(g q r:Nat):Nat->Prop:=λj=>j=g\/j=q\/j=r
def flt(c:Nat):List PanicEntry:=[{v:=.iface 171 (.agg #[.int .i64 c]),recovered:=false}]
section
variable {w w':World} {B g q r D L:Nat} {s:ByteArray} {x:St}
theorem In.cells(h:In w B g q r s D L x):∃cp v3 v4,w.cell? ⟨g,0,none⟩=some (.pointer (some ⟨q,0,none⟩))/\w.cell? ⟨g,1,none⟩=some (.slice (some ⟨r,0,none⟩) x.2.length cp)/\w.cell? ⟨g,2,none⟩=some (.int .i64 ((L:Int) - ((x.2.length - D:Nat):Int)))/\
 w.cell? ⟨g,3,none⟩=some v3/\w.cell? ⟨g,4,none⟩=some v4/\(∀i,w.frozen? ⟨g,i,none⟩=false)/\Ry w r cp x.2/\Md w r v3 v4:=by
 obtain⟨cp,v3,v4,h1,h2,h3⟩:=h.row;refine⟨cp,v3,v4,?_,?_,?_,?_,?_,λi=> ?_,h2,h3⟩<;>simp[World.cell?,World.frozen?,h1]
theorem In.glt(h:In w B g q r s D L x):g<w.heap.size:=by
 obtain⟨cp,v3,v4,h1,h2,h3⟩:=h.row;exact(qW.1 h1).1
theorem In.byt(h:In w B g q r s D L x):Byt w r:=by
 obtain⟨cp,v3,v4,h1,h2,h3⟩:=h.row;exact h2.typ
theorem In.rlt(h:In w B g q r s D L x):r<w.heap.size:=by
 obtain⟨cp,v3,v4,h1,h2,h3⟩:=h.row;exact h2.lt
theorem In.gr(h:In w B g q r s D L x):g≠r:=by
 obtain⟨cp,v3,v4,h1,h2,h3⟩:=h.row;obtain⟨c,fz,e⟩:=h2.typ;intro q;subst q;rw[h1] at e;injection e with e
 injection e with _ e _
 exact absurd e (by decide)
theorem In.ng(h:In w B g q r s D L x):NoT w g:=by
 obtain⟨cp,v3,v4,h1,_⟩:=h.cells;exact⟨_,h1,λz=>⟨λe=>(by cases e),λe=>(by cases e)⟩⟩
theorem In.nq(h:In w B g q r s D L x):NoT w q:=⟨_,h.rd.c0,λz=>⟨λe=>(by cases e),λe=>(by cases e)⟩⟩
theorem In.gq(h:In w B g q r s D L x):g≠q:=by
 obtain⟨cp,v3,v4,h1,_⟩:=h.cells;intro e;subst e;rw[h.rd.c0] at h1;cases h1
theorem In.chs(h:In w B g q r s D L x):∀j,Ch g q r j->j=r\/NoT w j:=λj hj=>by
 rcases hj with rfl|rfl|rfl
 · exact .inr h.ng
 · exact .inr h.nq
 · exact .inl rfl
theorem In.tb{p n:Nat}{l:Nat->Nat}(h:In w B g q r s D L x)(ht:Tb w r p l n)(hk:Kept (Ch g q r) w w'):Tb w' r p l n:=ht.kept h.byt hk h.chs
theorem Md.kept{S:Nat->Prop}{v3 v4:Value}(h:Md w r v3 v4)(hr:Byt w r)(hk:Kept S w w')(hS:∀j,S j->j=r\/NoT w j):Md w' r v3 v4:=by
 rcases h with h|⟨p1,p2,e1,e2,t1,t2⟩
 · exact .inl h
 · exact .inr ⟨p1,p2,e1,e2,t1.kept hr hk hS,t2.kept hr hk hS⟩
theorem In.same(h:In w B g q r s D L x)(hk:Kept NoB w w'):In w' B g q r s D L x:=by
 obtain⟨cp,v3,v4,h1,h2,h3⟩:=h.row;exact⟨h.gb,h.rb,h.qr,h.rd.same hk,⟨cp,v3,v4,(hk.block g h.glt (λe=>e)).trans h1,h2.kept hk (λe=>e),h3.kept h2.typ hk (λ_ e=>e.elim)⟩,h.dl,h.ll⟩
theorem In.below(h:In w B g q r s D L x)(hb:Below w.heap.size w w'):In w' B g q r s D L x:=h.same (Kept.of_below hb)
theorem In.read(h:In w B g q r s D L x){a:Nat}(hk:Kept (λj=>j=q) w w')(hr:Rd w' B q s a):In w' B g q r s D L (a,x.2):=by
 obtain⟨cp,v3,v4,h1,h2,h3⟩:=h.row;exact⟨h.gb,h.rb,h.qr,hr,⟨cp,v3,v4,(hk.block g h.glt h.gq).trans h1,h2.kept hk (λe=>h.qr e.symm),h3.kept h2.typ hk (λj e=> .inr (by rw[e];exact h.nq))⟩,h.dl,h.ll⟩
end
structure Res(w:World)(B g q r:Nat)(s:ByteArray)(D L:Nat)(y:St)(w':World):Prop where
 kept:Kept (Ch g q r) w w'
 ex:∃r',(r'=r\/w.heap.size<=r')/\In w' B g q r' s D L y
def Out{α:Type}(w:World)(B g q r:Nat)(s:ByteArray)(D L:Nat)(res:Except Nat (α×St))(V:α->Ending->World->Prop)(e:Ending)(w':World):Prop:=
 match res with
 |.ok p=>V p.1 e w'/\Res w B g q r s D L p.2 w'
 |.error c=>e=.panicked (flt c)/\Kept (Ch g q r) w w'
def z0h(a:Nat)(e:Ending)(_:World):Prop:=e=.returned (.int .i64 a)
def z1G{α:Type}(_:α)(e:Ending)(_:World):Prop:=e=.returned (.tuple #[])
theorem z3c(c:Nat)(w:World):Calls prog 171 #[.int .i64 c] w λe w'=>e=.panicked (flt c)/\Kept NoB w w':=by
 go_enter func171,ntmps171;go_wp2;exact⟨rfl,rfl,by first|exact Kept.refl _ _|exact(Kept.refl _ _).alloc _⟩
theorem z2F(w:World):Calls prog 208 #[.int .i64 0] w λe w'=>e=.returned (.tuple #[])/\w=w':=by
 go_enter func208,ntmps208;go_wp2;go_end0;exact⟨rfl,rfl⟩
theorem zeA(c:Nat)(hc:c≠0)(w:World):Calls prog 208 #[.int .i64 c] w λe w'=>e=.panicked (flt c)/\Kept NoB w w':=by
 have HF:=qH (λw=>z3c c w);have d0:((c:Int) !=0)=true:=(by rw[bne_iff_ne];omega);go_enter func208,ntmps208;go_wp2_with (go_at_call 171;(with_reducible refine(HF.o _).mono ?_);rintro e w1 ⟨rfl,b1⟩;have B1:=qH b1;clear b1);exact⟨rfl,rfl,B1.o⟩
theorem z6O(w:World):Calls prog 208 #[.int .i64 6] w λe w'=>e=.panicked (flt 6)/\Kept NoB w w':=zeA 6 (by decide) w
section
variable {w:World} {B g q r D L:Nat} {s:ByteArray} {x:St}
theorem In.res(h:In w B g q r s D L x){w':World}{y:St}(hk:Kept (Ch g q r) w w')(h':In w' B g q r s D L y):Res w B g q r s D L y w':=⟨hk,r,.inl rfl,h'⟩
theorem kq{w':World}(hk:Kept (λj=>j=q) w w'):Kept (Ch g q r) w w':=hk.mono λj e=> .inr (.inl e)
theorem z17(h:In w B g q r s D L x)(hs:s.size<=100000)(n:Nat)(hn:n<=16):Calls prog 166 #[.pointer (some ⟨g,0,none⟩),.int .i64 n] w (Out w B g q r s D L (bits n s D L x) z0h):=by
 obtain⟨cp,v3,v4,c0,c1,c2,c3,c4,cf,hy,hm⟩:=h.cells;have HI:=qH h;by_cases hf:x.1+n<=8*s.size
 · have e:bits n s D L x=.ok (M.nb s x.1 n,(x.1+n,x.2)):=by unfold bits;rw[if_pos hf]
   rw[e];have HB:=qH (zaB h.rd (by omega) n (by omega) (by omega));have hlt:M.nb s x.1 n<=65535:=by
    have h1:=M.nb_lt s x.1 n;have h2:2^n<=2^16:=Nat.pow_le_pow_right (by decide) hn;omega
   generalize hz:M.nb s x.1 n=z at HB hlt ⊢;clear h hy hm c1 c2 c3 c4 cf e hf hz;go_enter func166,ntmps166
   go_wp2_with (first
    |(go_at_call 207;(with_reducible refine HB.o.mono ?_);rintro e w1 ⟨rfl,r1,k1⟩;obtain⟨R1,K1⟩:=qh2 r1 k1;clear r1 k1)
    |(go_at_call 208;(with_reducible refine(z2F _).mono ?_);rintro e w2 ⟨rfl,rfl⟩))
   go_ret;exact⟨rfl,HI.o.res (kq K1.o) (HI.o.read K1.o R1.o)⟩
 · have e:bits n s D L x=.error 6:=by unfold bits;rw[if_neg hf]
   rw[e];have HB:=qH (zaC h.rd (by omega) (n:Int) (by omega) (by omega) (by omega));have HC:=qH z6O;clear h hy hm c1 c2 c3 c4 cf e hf;go_enter func166,ntmps166
   go_wp2_with (first
    |(go_at_call 207;(with_reducible refine HB.o.mono ?_);rintro e w1 ⟨rfl,r1,k1⟩;have K1:=qH k1;clear r1 k1)
    |(go_at_call 208;(with_reducible refine(HC.o _).mono ?_);rintro e w2 ⟨rfl,k2⟩;have K2:=qH k2;clear k2))
   exact⟨rfl,rfl,(kq K1.o).trans K2.o (λ_ e=>e.elim)⟩
end
section
variable {w:World} {B g q r D L:Nat} {s:ByteArray} {x:St}
theorem z4I(w:World):Calls prog 171 #[.int .i64 163] w λe w'=>e=.panicked (flt 163)/\Kept NoB w w':=z3c 163 w
theorem zja(w:World):Calls prog 171 #[.int .i64 5] w λe w'=>e=.panicked (flt 5)/\Kept NoB w w':=z3c 5 w
theorem zeh(w:World):Calls prog 171 #[.int .i64 164] w λe w'=>e=.panicked (flt 164)/\Kept NoB w w':=z3c 164 w
theorem z0O(w:World):Calls prog 171 #[.int .i64 162] w λe w'=>e=.panicked (flt 162)/\Kept NoB w w':=z3c 162 w
theorem zei(w:World):Calls prog 171 #[.int .i64 161] w λe w'=>e=.panicked (flt 161)/\Kept NoB w w':=z3c 161 w
theorem zej(w:World):Calls prog 171 #[.int .i64 160] w λe w'=>e=.panicked (flt 160)/\Kept NoB w w':=z3c 160 w
theorem zbC(l:Nat->Nat)(n a:Nat)(s:ByteArray):H.gnext l n s a=if(lok l n s a).2.2=0 then((lok l n s a).1,0,a+(lok l n s a).2.1) else(0,(lok l n s a).2.2,a):=rfl
theorem zaV(h:In w B g q r s D L x)(hs:s.size<=100000){p n:Nat}{l:Nat->Nat}(ht:Tb w r p l n):Calls prog 215 #[.pointer (some ⟨g,0,none⟩),.pointer (some ⟨p,0,none⟩)] w (Out w B g q r s D L (nxt l n s D L x) z0h):=by
 obtain⟨cp,v3,v4,c0,c1,c2,c3,c4,cf,hy,hm⟩:=h.cells;have HI:=qH h;have hf:=ht.tbl.fit;obtain⟨T,m,G,N,Dd,f,f1,f2,hp⟩:=ht.ex;have hN:=H.hnext_kept T p m N n f G Dd l w B q x.1 s hf f1 f2 (λw' hk=>by
  obtain⟨es,clock,e1,r⟩:=hp.own;refine Hp.kept hp hk (λe=> ?_) (λe=> ?_) (λb s' z e2 e=> ?_)
  · have:=hp.c0
    rw[e,h.rd.c0] at this;cases this
  · have:=h.rd.c0
    rw[<-e,z4S e1] at this;cases this
  · have:=(hp.rows b s' z e2).cell1 (i:=0) (Nat.two_pow_pos z)
    rw[Nat.zero_mul,e,h.rd.c0] at this;cases this) h.rd (by omega)
 rw[zbC] at hN;rcases z2A (l:=l) (n:=n) (X:=M.nb s x.1 (min 15 (8*s.size - x.1))) (h:=min 15 (8*s.size - x.1)) hf with⟨i,i1,i2,i3,i4,i5⟩|i5|i5
 · have e:nxt l n s D L x=.ok (i,(x.1+l i,x.2)):=by
    unfold nxt;rw[if_pos ht.tbl,show lok l n s x.1=(i,l i,0) from i5,if_pos rfl]
   rw[e];rw[show lok l n s x.1=(i,l i,0) from i5,if_pos rfl] at hN;have HN:=qH (show Calls prog 260 #[.pointer (some ⟨p,0,none⟩),.pointer (some ⟨q,0,none⟩)] w (Got w B q s (.tuple #[.int .i64 i,.int .i64 0]) (x.1+l i)) from hN);clear h hy hm c1 c2 c3 c4 cf e hN hp ht i5 i4;go_enter func215,ntmps215
   go_wp2_with (first
    |(go_at_call 260;(with_reducible refine HN.o.mono ?_);rintro e w1 ⟨rfl,r1,k1⟩;obtain⟨R1,K1⟩:=qh2 r1 k1;clear r1 k1)
    |(go_at_call 208;(with_reducible refine(z2F _).mono ?_);rintro e w2 ⟨rfl,rfl⟩))
   go_ret;exact⟨rfl,HI.o.res (kq K1.o) (HI.o.read K1.o R1.o)⟩
 · have e:nxt l n s D L x=.error 6:=by
    unfold nxt;rw[if_pos ht.tbl,show lok l n s x.1=(0,0,6) from i5];rfl
   rw[e];rw[show lok l n s x.1=(0,0,6) from i5,if_neg (by decide)] at hN;have HN:=qH (show Calls prog 260 #[.pointer (some ⟨p,0,none⟩),.pointer (some ⟨q,0,none⟩)] w (Got w B q s (.tuple #[.int .i64 0,.int .i64 6]) x.1) from hN);clear h hy hm c1 c2 c3 c4 cf e hN hp ht i5;go_enter func215,ntmps215
   go_wp2_with (first
    |(go_at_call 260;(with_reducible refine HN.o.mono ?_);rintro e w1 ⟨rfl,r1,k1⟩;have K1:=qH k1;clear r1 k1)
    |(go_at_call 208;(with_reducible refine(z6O _).mono ?_);rintro e w2 ⟨rfl,k2⟩;have K2:=qH k2;clear k2))
   exact⟨rfl,rfl,(kq K1.o).trans K2.o (λ_ e=>e.elim)⟩
 · have e:nxt l n s D L x=.error 163:=by
    unfold nxt;rw[if_pos ht.tbl,show lok l n s x.1=(0,0,7) from i5];rfl
   rw[e];rw[show lok l n s x.1=(0,0,7) from i5,if_neg (by decide)] at hN;have HN:=qH (show Calls prog 260 #[.pointer (some ⟨p,0,none⟩),.pointer (some ⟨q,0,none⟩)] w (Got w B q s (.tuple #[.int .i64 0,.int .i64 7]) x.1) from hN);clear h hy hm c1 c2 c3 c4 cf e hN hp ht i5;go_enter func215,ntmps215
   go_wp2_with (first
    |(go_at_call 260;(with_reducible refine HN.o.mono ?_);rintro e w1 ⟨rfl,r1,k1⟩;have K1:=qH k1;clear r1 k1)
    |(go_at_call 171;(with_reducible refine(z4I _).mono ?_);rintro e w2 ⟨rfl,k2⟩;have K2:=qH k2;clear k2))
   exact⟨rfl,rfl,(kq K1.o).trans K2.o (λ_ e=>e.elim)⟩
theorem take_no(h:In w B g q r s D L x){k:Nat}(hk:k<=100000000)(hL:L<x.2.length - D+k):Calls prog 212 #[.pointer (some ⟨g,0,none⟩),.int .i64 k] w λe w'=>e=.panicked (flt 5)/\Kept NoB w w':=by
 obtain⟨cp,v3,v4,c0,c1,c2,c3,c4,cf,hy,hm⟩:=h.cells;obtain⟨Y,hY⟩:∃Y:Int,(L:Int) - ((x.2.length - D:Nat):Int)=Y:=⟨_,rfl⟩
 rw[hY] at c2;have d0:decide (Y<(k:Int))=true:=q9T (by omega);clear h hy hm c0 c1 c3 c4 cf hY hL;go_enter func212,ntmps212;go_wp2_with (go_at_call 171;(with_reducible refine(zja _).mono ?_);rintro e w2 ⟨rfl,k2⟩;have K2:=qH k2;clear k2);exact⟨rfl,rfl,K2.o⟩
theorem take_yes(h:In w B g q r s D L x){k:Nat}(hL0:L<=1000000000)(hL:¬L<x.2.length - D+k):Calls prog 212 #[.pointer (some ⟨g,0,none⟩),.int .i64 k] w λe w'=>e=.returned (.tuple #[])/\w'=w.setCell ⟨g,2,none⟩ (.int .i64 ((L:Int) - ((x.2.length - D+k:Nat):Int))):=by
 obtain⟨cp,v3,v4,c0,c1,c2,c3,c4,cf,hy,hm⟩:=h.cells;have hll:=h.ll;have hfz:=cf 2;obtain⟨Y,hY⟩:∃Y:Int,(L:Int) - ((x.2.length - D:Nat):Int)=Y:=⟨_,rfl⟩
 obtain⟨Z,hZ⟩:∃Z:Int,(L:Int) - ((x.2.length - D+k:Nat):Int)=Z:=⟨_,rfl⟩
 rw[hY] at c2;rw[hZ];have d0:decide (Y<(k:Int))=false:=qF (by omega);have hyz:Y - (k:Int)=Z:=(by omega);have hz1:0<=Z/\Z<=1000000000:=(by omega);clear h hy hm c0 c1 c3 c4 cf hY hZ hll hL hL0;go_enter func212,ntmps212;go_wp2;go_end0;exact⟨rfl,rfl⟩
end
theorem z7e{ops:Array Oper}{o:Oper}{a:Act}{w:World}{K:Act->World->Prop}{Q:Exit->Act->World->Prop}{E:Prop}(hgd:o.guard=none)(s x:Operand)
 (ho:o.op=.call {callee:=.builtin .append,args:= #[s,x],argTypes:= #[26,26]}) (g n cp:Nat) (bs:List UInt8) (hs:a.eval s=.slice (some ⟨g,0,none⟩) n cp) (h:Ry w g cp bs) (hn:bs.length=n)
 (ad:Addr) (c:Nat) (u:UInt8) (hx:a.eval x=.slice (some ad) 1 c) (hc:w.cell? ad=some (.int .u8 (u.toNat:Int))) (hm:n<=1000000000)
 (hK:∀g' cp' w',Ry w' g' cp' (bs++[u])->w.grownBy w' (some g)->(g'=g\/w.heap.size<=g')->K (a.put o.dst (.slice (some ⟨g',0,none⟩) (n+1) cp')) w'):
 if Region.wanted o (yielded ops a.tmps)=true then Oper.wp prog o a w K Q else E:=by
 have hw:Region.wanted o (yielded ops a.tmps)=true:=(by simp[Region.wanted,hgd]);rw[if_pos hw];obtain⟨v,w',r1,g',cp',rfl,r2,r3,r4⟩:=zae w o.type g n cp bs h hn ad c u hc hm;unfold Oper.wp execOp;simp only[ho,resolve,invoke,builtin,Sem.run_bind,Sem.run_pure,Result.andThen_ok,List.map_toArray,List.map_cons,List.map_nil,hs,hx,r1];have e:(bs++[u]).length=n+1:=(by rw[qA,hn];rfl);rw[e];exact hK g' cp' w' r2 r3 r4
theorem z3L{ops:Array Oper}{rest:List Oper}{o:Oper}{a:Act}{w:World}{Q:Exit->Act->World->Prop}(hgd:o.guard=none)(s x:Operand)
 (ho:o.op=.call {callee:=.builtin .append,args:= #[s,x],argTypes:= #[26,26]}) (g n cp:Nat) (bs:List UInt8) (hs:a.eval s=.slice (some ⟨g,0,none⟩) n cp) (h:Ry w g cp bs) (hn:bs.length=n)
 (ad:Addr) (c:Nat) (u:UInt8) (hx:a.eval x=.slice (some ad) 1 c) (hc:w.cell? ad=some (.int .u8 (u.toNat:Int))) (hm:n<=1000000000)
 (hK:∀g' cp' w',Ry w' g' cp' (bs++[u])->w.grownBy w' (some g)->(g'=g\/w.heap.size<=g')->wpList prog ops Q rest (a.put o.dst (.slice (some ⟨g',0,none⟩) (n+1) cp')) w'):wpList prog ops Q (o::rest) a w:=
 wpList_plain hgd λK hK'=>by
  obtain⟨v,w',r1,g',cp',rfl,r2,r3,r4⟩:=zae w o.type g n cp bs h hn ad c u hc hm;unfold Oper.wp execOp;simp only[ho,resolve,invoke,builtin,Sem.run_bind,Sem.run_pure,Result.andThen_ok,List.map_toArray,List.map_cons,List.map_nil,hs,hx,r1];have e:(bs++[u]).length=n+1:=(by rw[qA,hn];rfl);rw[e];exact hK' _ _ (hK g' cp' w' r2 r3 r4)
theorem z8q{ops:Array Oper}{rest:List Oper}{o:Oper}{a:Act}{w:World}{Q:Exit->Act->World->Prop}(hgd:o.guard=none)(s x:Operand)
 (ho:o.op=.call {callee:=.builtin .append,args:= #[s,x],argTypes:= #[26,9]}) (g n cp:Nat) (bs:List UInt8) (hs:a.eval s=.slice (some ⟨g,0,none⟩) n cp) (h:Ry w g cp bs) (hn:bs.length=n)
 (t:ByteArray) (hx:a.eval x=.string t) (hm:n+t.size<=10000000000)
 (hK:∀g' cp' w',Ry w' g' cp' (bs++t.data.toList)->w.grownBy w' (some g)->(g'=g\/w.heap.size<=g')->wpList prog ops Q rest (a.put o.dst (.slice (some ⟨g',0,none⟩) (bs++t.data.toList).length cp')) w'):wpList prog ops Q (o::rest) a w:=
 wpList_plain hgd λK hK'=>by
  obtain⟨v,w',r1,g',cp',rfl,r2,r3,r4⟩:=zad w o.type g n cp bs h hn t hm;unfold Oper.wp execOp;simp only[ho,resolve,invoke,builtin,Sem.run_bind,Sem.run_pure,Result.andThen_ok,List.map_toArray,List.map_cons,List.map_nil,hs,hx,r1];exact hK' _ _ (hK g' cp' w' r2 r3 r4)
structure Ir(w:World)(B g q r:Nat)(s:ByteArray)(Z:Int)(cp:Nat)(x:St):Prop where
 gb:B<=g
 rb:B<=r
 qr:q≠r
 rd:Rd w B q s x.1
 row:∃v3 v4,w.heap[g]? =some (.cells #[.pointer (some ⟨q,0,none⟩),.slice (some ⟨r,0,none⟩) x.2.length cp,.int .i64 Z,v3,v4] 179 (0,0))/\Md w r v3 v4
 ry:Ry w r cp x.2
section
variable {w w':World} {B g q r D L cp:Nat} {s:ByteArray} {x:St} {Z:Int}
theorem In.ir(h:In w B g q r s D L x):∃cp,Ir w B g q r s ((L:Int) - ((x.2.length - D:Nat):Int)) cp x:=by
 obtain⟨cp,v3,v4,h1,h2,h3⟩:=h.row;exact⟨cp,h.gb,h.rb,h.qr,h.rd,⟨v3,v4,h1,h3⟩,h2⟩
theorem Ir.in_(h:Ir w B g q r s Z cp x)(hZ:Z=(L:Int) - ((x.2.length - D:Nat):Int))(hD:D<=x.2.length)(hL:x.2.length - D<=L):In w B g q r s D L x:=by
 obtain⟨v3,v4,h1,h3⟩:=h.row;subst hZ;exact⟨h.gb,h.rb,h.qr,h.rd,⟨cp,v3,v4,h1,h.ry,h3⟩,hD,hL⟩
theorem Ir.cells(h:Ir w B g q r s Z cp x):w.cell? ⟨g,0,none⟩=some (.pointer (some ⟨q,0,none⟩))/\w.cell? ⟨g,1,none⟩=some (.slice (some ⟨r,0,none⟩) x.2.length cp)/\(∀i,w.frozen? ⟨g,i,none⟩=false):=by
 obtain⟨v3,v4,h1,h3⟩:=h.row;refine⟨?_,?_,λi=> ?_⟩<;>simp[World.cell?,World.frozen?,h1]
theorem Ir.glt(h:Ir w B g q r s Z cp x):g<w.heap.size:=by
 obtain⟨v3,v4,h1,h3⟩:=h.row;exact(qW.1 h1).1
theorem Ir.gr(h:Ir w B g q r s Z cp x):g≠r:=by
 obtain⟨v3,v4,h1,h3⟩:=h.row;obtain⟨c,fz,e⟩:=h.ry.typ;intro q;subst q;rw[h1] at e;injection e with e
 injection e with _ e _
 exact absurd e (by decide)
theorem Ir.ng(h:Ir w B g q r s Z cp x):NoT w g:=⟨_,h.cells.1,λz=>⟨λe=>(by cases e),λe=>(by cases e)⟩⟩
theorem Ir.gq(h:Ir w B g q r s Z cp x):g≠q:=by
 intro e;have:=h.cells.1;rw[e,h.rd.c0] at this;cases this
theorem Ir.setZ(h:Ir w B g q r s Z cp x)(Y:Int):Ir (w.setCell ⟨g,2,none⟩ (.int .i64 Y)) B g q r s Y cp x/\Kept (λj=>j=g) w (w.setCell ⟨g,2,none⟩ (.int .i64 Y)):=by
 obtain⟨v3,v4,h1,h3⟩:=h.row;have hk:Kept (λj=>j=g) w (w.setCell ⟨g,2,none⟩ (.int .i64 Y)):=(Kept.refl (λj=>j=g) w).setCell ⟨g,2,none⟩ (.inl rfl) _;refine⟨⟨h.gb,h.rb,h.qr,h.rd.keep hk (λe=>h.gq e.symm),⟨v3,v4,?_,h3.kept h.ry.typ hk (λj e=> .inr (by rw[e];exact h.ng))⟩,h.ry.kept hk (λe=>h.gr e.symm)⟩,hk⟩;rw[setCell_eq_setRow w g 2 _ _ _ _ h1,setRow_heap w g _ _ _ _ h1];rfl
theorem Ir.app(h:Ir w B g q r s Z cp x){w1 w2:World}(h1:Kept NoB w w1){l:List UInt8}{g' cp':Nat}(hy:Ry w2 g' cp' (x.2++l))(hg:w1.grownBy w2 (some r))(ho:g'=r\/w1.heap.size<=g'){n:Nat}(hn:n=(x.2++l).length):
 Ir (w2.setCell ⟨g,1,none⟩ (.slice (some ⟨g',0,none⟩) n cp')) B g q g' s Z cp' (x.1,x.2++l)/\Kept (Ch g q r) w (w2.setCell ⟨g,1,none⟩ (.slice (some ⟨g',0,none⟩) n cp'))/\(g'=r\/w.heap.size<=g'):=by
 subst hn;obtain⟨v3,v4,e1,e3⟩:=h.row;have hgl:=h.glt;have hql:=h.rd.lt;have hs1:=h1.size;have ho':g'=r\/w.heap.size<=g':=ho.imp id (λe=>by omega);have hk:Kept (λj=>j=r) w w2:=(h1.none _).grown hg (λk e=>by cases e;exact .inl rfl);have hne:g'≠g:=(by rcases ho' with e|e;exact λq=>h.gr (by rw[<-q,e]);omega);have hne2:q≠g':=(by rcases ho' with e|e;exact λq=>h.qr (by rw[q,e]);omega);have e2:w2.heap[g]? =_:=(hk.block g hgl h.gr).trans e1;have hk2:Kept (λj=>j=g) w2 (w2.setCell ⟨g,1,none⟩ (.slice (some ⟨g',0,none⟩) (x.2++l).length cp')):=(Kept.refl (λj=>j=g) w2).setCell ⟨g,1,none⟩ (.inl rfl) _;have hm2:Md w2 r v3 v4:=e3.kept h.ry.typ hk (λj e=> .inl e);have hb:B<=g':=(by rcases ho' with e|e;rw[e];exact h.rb;have:=h.rb;have:=h.ry.lt;omega);have hm3:Md w2 g' v3 v4:=by
  rcases hm2 with q|⟨p1,p2,q1,q2,t1,t2⟩
  · exact .inl q
  · refine .inr ⟨p1,p2,q1,q2,?_,?_⟩
    · refine t1.row ?_
      rcases ho' with e|e
      · rw[e];exact t1.ne
      · rcases e3 with⟨q,_⟩|⟨p1',p2',q1',q2',t1',t2'⟩
        · rw[q1] at q;cases q
        · rw[q1] at q1';injection q1' with q1';injection q1' with q1';injection q1' with q1';have:=t1'.lt;omega
    · refine t2.row ?_
      rcases ho' with e|e
      · rw[e];exact t2.ne
      · rcases e3 with⟨_,q⟩|⟨p1',p2',q1',q2',t1',t2'⟩
        · rw[q2] at q;cases q
        · rw[q2] at q2';injection q2' with q2';injection q2' with q2';injection q2' with q2';have:=t2'.lt;omega
 have hng:NoT w2 g:=⟨.pointer (some ⟨q,0,none⟩),by simp[World.cell?,e2],λz=>⟨λe=>(by cases e),λe=>(by cases e)⟩⟩;refine⟨⟨h.gb,hb,hne2,(h.rd.keep hk h.qr).keep hk2 (λe=>h.gq e.symm),⟨v3,v4,?_,hm3.kept hy.typ hk2 (λj e=> .inr (by rw[e];exact hng))⟩,hy.kept hk2 hne⟩,?_,ho'⟩
 · rw[setCell_eq_setRow w2 g 1 _ _ _ _ e2,setRow_heap w2 g _ _ _ _ e2]
   rfl
 · exact(hk.mono (λj e=> .inr (.inr e))).trans hk2 (λj e=> .inl (.inl e))
