import Derived.Test.YthgilhebnlglkaaGreatDoorKMIfU
import Derived.Test.YthgilhebnlglkaaGreatDoorKBpB
set_option linter.all false
set_option maxHeartbeats 0
set_option maxRecDepth 1000000
open Go.Proofs.Tryz
namespace Go.Proofs.YthgilhebnlglkaaGreatDoor
namespace I
open Go Go.RowKit M
def EZ(W:World)(l:Nat->Nat)(n:Nat)(e:Ending)(w':World):Prop:=∃p,e=.returned (.pointer (some ⟨p,0,none⟩))/\W.heap.size<=p/\Below W.heap.size W w'/\∀r,r<W.heap.size->Tb w' r p l n
def gK(W:World)(c:Nat)(e:Ending)(w':World):Prop:=e=.panicked (flt c)/\Below W.heap.size W w'
theorem kb{w w':World}(a:Kept NoB w w'):Below w.heap.size w w':=a.below qR (λ_ e=>e.elim)
theorem cZ(A:Option Addr)(n c:Nat)(l:Nat->Nat)(f:Nat)(W:World)(j:∀i,l i<=255)(h:av W .u8 A n (λi=>(l i:Int)))(a:Tbl l n)(d:1<=f)(hf:f<=15):
 Calls prog 254 #[.slice A n c,.int .i64 f] W (EZ W l n):=by
 have k:=qH (H.new_ok_any A n c l f W j h a d hf);have s:=qH a;clear h j a;unfold EZ;go_enter func254,ntmps254;go_wp2_with (go_at_call 288;(with_reducible refine k.o.mono ?_);rintro e w ⟨T,p,m,G,N,D,rfl,q,g,b⟩;obtain⟨u,t⟩:=qh2 g b;clear g b);go_ret;exact⟨p,rfl,q,t.o,λr v=>⟨s.o,by omega,T,m,G,N,D,f,d,hf,u.o⟩⟩
theorem gO(A:Option Addr)(n c:Nat)(l:Nat->Nat)(f:Nat)(W:World)(q:n<=maxLen)(m:∀i,l i<=255)(h:av W .u8 A n (λi=>(l i:Int)))(k:¬Tbl l n)(u:1<=f)(hf:f<=15):
 Calls prog 254 #[.slice A n c,.int .i64 f] W (gK W 162):=by
 have a:H.nerr l n f≠0:=λe=>k (H.nerr_ok e).2
 have b:H.nerr l n f<=7:=(by unfold H.nerr;split<;>(try split)<;>omega);have d:=qH (H.new_no_any A n c l f W q m h a);generalize r:H.nerr l n f=E at d a b;have t:((E:Int) !=0)=true:=(by rw[AQ];omega);clear h m k r q;unfold gK;go_enter func254,ntmps254
 go_wp2_with (first
  |(go_at_call 288;(with_reducible refine d.o.mono ?_);rintro e w ⟨rfl,g⟩;have j:=qH g;clear g)
  |(go_at_call 171;(with_reducible refine(bF _).mono ?_);rintro e v ⟨rfl,p⟩;have s:=qH p;clear p))
 exact⟨rfl,rfl,j.o.trans ((kb s.o).mono j.o.size)⟩
theorem jP(A:Option Addr)(n c:Nat)(l:Nat->Nat)(W:World)(d:∀i,l i<=255)(a:av W .u8 A n (λi=>(l i:Int)))(b:Tbl l n):Calls prog 254 #[.slice A n c,.int .i64 9] W (EZ W l n):=cZ A n c l 9 W d a b (by omega) (by omega)
theorem q8(A:Option Addr)(n c:Nat)(l:Nat->Nat)(W:World)(e:n<=maxLen)(d:∀i,l i<=255)(a:av W .u8 A n (λi=>(l i:Int)))(b:¬Tbl l n):Calls prog 254 #[.slice A n c,.int .i64 9] W (gK W 162):=gO A n c l 9 W e d a b (by omega) (by omega)
theorem sD(A:Option Addr)(n c:Nat)(l:Nat->Nat)(W:World)(d:∀i,l i<=255)(a:av W .u8 A n (λi=>(l i:Int)))(b:Tbl l n):Calls prog 254 #[.slice A n c,.int .i64 6] W (EZ W l n):=cZ A n c l 6 W d a b (by omega) (by omega)
theorem qa(A:Option Addr)(n c:Nat)(l:Nat->Nat)(W:World)(e:n<=maxLen)(d:∀i,l i<=255)(a:av W .u8 A n (λi=>(l i:Int)))(b:¬Tbl l n):Calls prog 254 #[.slice A n c,.int .i64 6] W (gK W 162):=gO A n c l 6 W e d a b (by omega) (by omega)
theorem sC(A:Option Addr)(n c:Nat)(l:Nat->Nat)(W:World)(d:∀i,l i<=255)(a:av W .u8 A n (λi=>(l i:Int)))(b:Tbl l n):Calls prog 254 #[.slice A n c,.int .i64 7] W (EZ W l n):=cZ A n c l 7 W d a b (by omega) (by omega)
def zR(W:World)(l:Nat->Nat)(n:Nat)(d:Nat->Nat)(m:Nat)(e:Ending)(w':World):Prop:=∃p1 p2,e=.returned (.agg #[.pointer (some ⟨p1,0,none⟩),.pointer (some ⟨p2,0,none⟩)])/\W.heap.size<=p1/\W.heap.size<=p2/\Below W.heap.size W w'/\∀r,r<W.heap.size->Tb w' r p1 l n/\Tb w' r p2 d m
theorem Tb.below{w w':World}{r p n:Nat}{l:Nat->Nat}(h:Tb w r p l n)(d:Below w.heap.size w w'):Tb w' r p l n:=by
 obtain⟨T,m,G,N,D,f,c,b,a⟩:=h.ex;exact⟨h.tbl,h.ne,T,m,G,N,D,f,c,b,a.below d⟩
theorem eE:(prog.info? 177).map (λi=>i.size)=some 2:=by kernel_rfl
theorem fh{w:World}{b:Nat}{T:TypeId}{x y:Value}(h:w.heap[b]? =some (.cells #[x,y] T (0,0)))(u v:Value):((w.setCell ⟨b,0,none⟩ u).setCell ⟨b,1,none⟩ v).heap[b]? =some (.cells #[u,v] T (0,0)):=by
 have a:(w.setCell ⟨b,0,none⟩ u).heap[b]? =some (.cells #[u,y] T (0,0)):=by
  rw[setCell_eq_setRow w b 0 _ _ _ _ h,setRow_heap w b _ _ _ _ h];rfl
 rw[setCell_eq_setRow _ b 1 _ _ _ _ a,setRow_heap _ b _ _ _ _ a];rfl
theorem an{w:World}{b:Nat}{T:TypeId}{x y:Value}(h:w.heap[b]? =some (.cells #[x,y] T (0,0))):w.cell? ⟨b,0,none⟩=some x/\w.cell? ⟨b,1,none⟩=some y/\w.frozen? ⟨b,0,none⟩=false/\w.frozen? ⟨b,1,none⟩=false:=by
 refine⟨?_,?_,?_,?_⟩<;>simp[World.cell?,World.frozen?,h]
theorem Tb.keptN{S:Nat->Prop}{w w':World}{r p n:Nat}{l:Nat->Nat}(h:Tb w r p l n)(u:Kept S w w')(k:∀j,S j->NoT w j):Tb w' r p l n:=by
 obtain⟨T,m,G,N,D,f,x,o,d⟩:=h.ex;have t:∃c clock,w.heap[m]? =some (.map c clock):=by
  obtain⟨c,clock,y,_⟩:=d.own;exact⟨c,clock,y⟩
 refine⟨h.tbl,h.ne,T,m,G,N,D,f,x,o,Hp.kept d u (λq=> ?_) (λq=> ?_) (λb s z e q=> ?_)⟩
 · obtain⟨v,a,g⟩:=k _ q
   rw[d.c0] at a;cases a;exact(g _).1 rfl
 · obtain⟨c,clock,e⟩:=t
   obtain⟨v,a,g⟩:=k _ q;rw[jr e] at a;cases a
 · obtain⟨v,a,g⟩:=k _ q
   have:=(d.rows b s z e).cell1 (i:=0) (AA z);rw[BU,a] at this;cases this;exact(g _).2 rfl
theorem Tb.two{w:World}{r p n b:Nat}{l:Nat->Nat}(h:Tb w r p l n){T:TypeId}{x y:Value}(c:w.heap[b]? =some (.cells #[x,y] T (0,0)))(a:∀z,x≠.int .i64 z/\x≠.int .u16 z)(u v:Value):Tb ((w.setCell ⟨b,0,none⟩ u).setCell ⟨b,1,none⟩ v) r p l n:=
 h.keptN (((Kept.refl (λj=>j=b) w).setCell ⟨b,0,none⟩ (.inl rfl) u).setCell ⟨b,1,none⟩ (.inl rfl) v) (λj e=>⟨x,by rw[e];exact(an c).1,a⟩)
theorem ej(A s:Option Addr)(n c j I:Nat)(l d:Nat->Nat)(W:World)(C:∀i,l i<=255)(J:∀i,d i<=255)(F:av W .u8 A n (λi=>(l i:Int)))(M:av W .u8 s j (λi=>(d i:Int)))(H:Tbl l n)(D:Tbl d j):
 Calls prog 210 #[.slice A n c,.slice s j I] W (zR W l n d j):=by
 have q:Below W.heap.size W (W.alloc (.cells #[.pointer none,.pointer none] 177)):=(Below.refl _ W).alloc qR _;have a:(W.alloc (.cells #[.pointer none,.pointer none] 177)).heap[W.heap.size]? =some (.cells #[.pointer none,.pointer none] 177 (0,0)):=heap_alloc_new _ _;obtain⟨w0,k⟩:∃w0,W.alloc (.cells #[.pointer none,.pointer none] 177)=w0:=⟨_,rfl⟩
 have N:w0.heap.size=W.heap.size+1:=(by rw[<-k];simp);have m:=jP A n c l (W.alloc (.cells #[.pointer none,.pointer none] 177)) C (F.below q) H;have z:=qH (λ(w':World) (U:Below W.heap.size W w')=>sD s j I d w' J (M.below U) D);rw[k] at m q a;unfold EZ at m z;obtain⟨m,T,b⟩:=qh3 m a q;clear F M C J a q H D;unfold zR;go_enter func210,ntmps210
 go_wp2_with (first
  |(go_at_call 254;(with_reducible refine m.o.mono ?_);rintro e Z ⟨y,rfl,O,G,L⟩;obtain⟨g,Q⟩:=qh2 G L;clear G L)
  |(go_at_call 254;(with_reducible refine(z.o _ (b.o.trans (g.o.mono b.o.size))).mono ?_);rintro e w2 ⟨K,rfl,R,x,B⟩;have h:=(x.block W.heap.size (by have:=g.o.size;omega)).trans ((g.o.block W.heap.size (by omega)).trans T.o);have S:=(an h).1;have Y:=(an h).2.1;have P:=(an h).2.2.1;have V:=(an h).2.2.2;obtain⟨w,E,X⟩:=qh3 h x B;clear x B h))
 refine bodyPost_ret (v:=.agg #[.pointer (some ⟨y,0,none⟩),.pointer (some ⟨K,0,none⟩)]) (results_cell_row rfl _ _ W.heap.size _ _ _ _ rfl (fh w.o _ _) underlying177 rfl eE) rfl ?_
 have u:Below W.heap.size W w2:=b.o.trans ((g.o.mono b.o.size).trans (E.o.mono (qK b.o.size g.o.size)));refine⟨y,K,rfl,by omega,by have:=g.o.size;omega,(u.setCell (p:=⟨W.heap.size,0,none⟩) qR _).setCell (p:=⟨W.heap.size,1,none⟩) qR _,λr hr=>⟨?_,?_⟩⟩
 · exact((Q.o r (by omega)).below E.o).two w.o (λ_=>⟨λe=>(by cases e),λe=>(by cases e)⟩) _ _
 · exact(X.o r (by have:=g.o.size;omega)).two w.o (λ_=>⟨λe=>(by cases e),λe=>(by cases e)⟩) _ _
theorem lK(A u:Option Addr)(n c n2 C:Nat)(l d:Nat->Nat)(W:World)(x:n<=maxLen)(j:n2<=maxLen)(r:∀i,l i<=255)(w:∀i,d i<=255)(s:av W .u8 A n (λi=>(l i:Int)))(y:av W .u8 u n2 (λi=>(d i:Int)))(v:¬Tbl l n\/¬Tbl d n2):
 Calls prog 210 #[.slice A n c,.slice u n2 C] W (gK W 162):=by
 have h:Below W.heap.size W (W.alloc (.cells #[.pointer none,.pointer none] 177)):=(Below.refl _ W).alloc qR _;obtain⟨w0,k⟩:∃w0,W.alloc (.cells #[.pointer none,.pointer none] 177)=w0:=⟨_,rfl⟩
 by_cases q:Tbl l n
 · have B:¬Tbl d n2:=v.resolve_left (λg=>g q)
   have b:=jP A n c l (W.alloc (.cells #[.pointer none,.pointer none] 177)) r (s.below h) q;have z:=qH (λ(w':World) (H:Below W.heap.size W w')=>qa u n2 C d w' j w (y.below H) B);rw[k] at b h;unfold EZ at b;unfold gK at z;obtain⟨b,a⟩:=qh2 b h;clear s y r w h q B v x j;unfold gK;go_enter func210,ntmps210
   go_wp2_with (first
    |(go_at_call 254;(with_reducible refine b.o.mono ?_);rintro e G ⟨J,rfl,E,p,I⟩;have m:=qH p;clear p I)
    |(go_at_call 254;(with_reducible refine(z.o _ (a.o.trans (m.o.mono a.o.size))).mono ?_);rintro e K ⟨rfl,D⟩;have F:=qH D;clear D))
   exact⟨rfl,rfl,a.o.trans ((m.o.mono a.o.size).trans (F.o.mono (qK a.o.size m.o.size)))⟩
 · have b:=q8 A n c l (W.alloc (.cells #[.pointer none,.pointer none] 177)) x r (s.below h) q
   rw[k] at b h;unfold gK at b;obtain⟨b,a⟩:=qh2 b h;clear s y r w h q v x j;unfold gK;go_enter func210,ntmps210;go_wp2_with (go_at_call 254;(with_reducible refine b.o.mono ?_);rintro e G ⟨rfl,p⟩;have m:=qH p;clear p);exact⟨rfl,rfl,a.o.trans (m.o.mono a.o.size)⟩
theorem In.other{w w':World}{B g q r D L b:Nat}{s:ByteArray}{x:St}(h:In w B g q r s D L x)(a:Kept (λj=>j=b) w w')(f:b≠g)(o:b≠q)(k:b≠r)(d:NoT w b):In w' B g q r s D L x:=by
 obtain⟨i,p,l,m,c,n⟩:=h.row;exact⟨h.gb,h.rb,h.qr,h.rd.keep a (λe=>o e.symm),⟨i,p,l,(a.block g h.glt (λe=>f e.symm)).trans m,c.kept a (λe=>k e.symm),n.kept c.typ a (λj e=> .inr (by rw[e];exact d))⟩,h.dl,h.ll⟩
def rM(l:Nat->Nat):Rm (Nat×Nat):=bnd (nxt l 19) λy=>bnd (bits (rbm y)) λe=>pur (y,e)
def LK(p:Nat×Nat)(e:Ending)(_:World):Prop:=e=.returned (.agg #[.int .u8 (p.1:Nat),.int .u8 (p.2:Nat)])
theorem Jd(y:Nat):rbm y<=7:=by unfold rbm;split<;>(try split)<;>(try split)<;>omega
theorem Je{y:Nat}(h:y<=18):max (rbs y) 0=((rbm y:Nat):Int):=by
 have:∀y,y<=18->max (rbs y) 0=((rbm y:Nat):Int):=(by decide);exact this y h
theorem FW:(prog.info? 225).map (λi=>i.size)=some 2:=by kernel_rfl
section
variable {w:World} {B g q r D L:Nat} {s:ByteArray} {x:St}
theorem L0(h:In w B g q r s D L x)(hs:s.size<=100000)(ht:TB B w){p:Nat}{l:Nat->Nat}(tt:Tb w r p l 19):
 Calls prog 255 #[.pointer (some ⟨g,0,none⟩),.pointer (some ⟨p,0,none⟩)] w (Out w B g q r s D L (rM l s D L x) LK):=by
 generalize n:rM l s D L x=R;unfold rM at n;have d:Kept NoB w (w.alloc (.cells #[.int .u8 0,.int .u8 0] 225)):=(Kept.refl _ _).alloc _;have a:(w.alloc (.cells #[.int .u8 0,.int .u8 0] 225)).heap[w.heap.size]? =some (.cells #[.int .u8 0,.int .u8 0] 225 (0,0)):=heap_alloc_new _ _;have P:(w.alloc (.cells #[.int .u8 0,.int .u8 0] 225)).heap.size=w.heap.size+1:=(by simp);generalize a2:w.alloc (.cells #[.int .u8 0,.int .u8 0] 225)=w0 at d a P;generalize hb:w.heap.size=b at a P;have Z:=h.same d;have t0:Tb w0 r p l 19:=tt.kept h.byt d (λ_ e=>e.elim);have a3:g<b:=(by have:=h.glt;omega);have a9:q<b:=(by have:=h.rd.lt;omega);have a4:r<b:=(by have:=h.rlt;omega);have Y:=h.rd.le;have C:TB B w0:=ht.go (h.bl (d.none _));have Q:=qH (tZ Z hs t0)
 have HF:=qH (λ(W:World) (y:St) (o:Res w0 B g q r s D L y W)=>(show W.heap[b]? =some (.cells #[.int .u8 0,.int .u8 0] 225 (0,0)) from
  (o.kept.block b (by omega) (λe=>by rcases e with e|e|e<;>omega)).trans a))
 have K:=qH (λ(W:World) (y:St) (o:Res w0 B g q r s D L y W)=>(show U.Tab W from(C.go (Z.bl o.kept)).here.1));have HE:=qH (λ(c:Nat) (W:World) (k:Kept (Ch g q r) w0 W)=>(show Kept (Ch g q r) w W from(d.none _).trans k (λ_ e=> .inl e)))
 have M:=qH (λ(W:World) (y:St) (o:Res w0 B g q r s D L y W) (u v:Value)=>(show Res w B g q r s D L y ((W.setCell ⟨b,0,none⟩ u).setCell ⟨b,1,none⟩ v) from by
  have a0:W.heap[b]? =some (.cells #[.int .u8 0,.int .u8 0] 225 (0,0)):=(o.kept.block b (by omega) (λe=>by rcases e with e|e|e<;>omega)).trans a;obtain⟨k,r',T,i⟩:=o;have k2:Kept (λj=>j=b) W ((W.setCell ⟨b,0,none⟩ u).setCell ⟨b,1,none⟩ v):=((Kept.refl (λj=>j=b) W).setCell ⟨b,0,none⟩ (.inl rfl) u).setCell ⟨b,1,none⟩ (.inl rfl) v;refine⟨((d.none _).trans k (λ_ e=> .inl e)).trans k2 (λj e=> .inr (by omega)),r',?_,i.other k2 (by omega) (by omega) (by omega) ⟨_,(an a0).1,λz=>⟨λe=>(by cases e),λe=>(by cases e)⟩⟩⟩;rcases T with e|e
  · exact .inl e
  · exact .inr (by omega)))
 clear h tt ht d a Z t0 C;cases I:nxt l 19 s D L x with
 |error c=>
  rw[ak I] at n;subst n;rw[I] at Q;clear I;go_enter func255,ntmps255;go_wp2_with (go_at_call 215;(with_reducible refine Q.o.mono ?_);rintro e w1 ⟨rfl,k1⟩;have K1:=qH k1;clear k1);exact⟨rfl,rfl,HE.o c _ K1.o⟩
 |ok pp=>
  obtain⟨y,X⟩:=pp;rw[I] at Q;rw[a8 I] at n;have hy:y<=18:=(by have:=(cq I Y).2.1;omega);have S:=Jd y;have F:∀W,U.Tab W->Calls prog 279 #[.int .u8 y] W λe w'=>e=.returned (.tuple #[.int .i64 (rbm y:Nat),.bool (decide (0<=rbs y))])/\W=w':=λW hT=>by
   have:=U.bits_any y W hT (by omega);rw[Je hy] at this;exact this
  generalize a1:(decide (0<=rbs y))=bb at F;have H:=qH F;have N:=qH (λ(W:World) (o:Res w0 B g q r s D L X W)=>(show Calls prog 166 #[.pointer (some ⟨g,0,none⟩),.int .i64 (rbm y:Nat)] W (Out w0 B g q r s D L (bits (rbm y) s D L X) ax) from o.lift (λr i=>bZ i hs (rbm y) (by omega))));generalize hm:rbm y=m at N H n S;clear I F a1;cases G:bits m s D L X with
  |error c=>
   rw[ak G] at n;subst n;rw[G] at N;clear G;go_enter func255,ntmps255
   go_wp2_with (first
    |(go_at_call 215;(with_reducible refine Q.o.mono ?_);rintro e w1 ⟨E,A⟩;unfold ax at E;subst E;have O:=qH A;clear A)
    |(go_at_call 279;(with_reducible refine(H.o _ (K.o _ _ O.o)).mono ?_);rintro e w2 ⟨rfl,rfl⟩)
    |(go_at_call 166;(with_reducible refine(N.o _ O.o).mono ?_);rintro e w3 ⟨rfl,k3⟩;have K3:=qH k3;clear k3))
   exact⟨rfl,rfl,HE.o c _ K3.o⟩
  |ok pp=>
   obtain⟨v,x2⟩:=pp;rw[a8 G] at n;rw[G] at N;have hv:=(bu G 128 (by have:2^m<=2^7:=Ak (by decide) S;omega)).1;have V:R=.ok ((y,v),x2):=n.symm;subst V;clear G n;go_enter func255,ntmps255
   go_wp2_with (first
    |(go_at_call 215;(with_reducible refine Q.o.mono ?_);rintro e w1 ⟨E,A⟩;unfold ax at E;subst E;have O:=qH A;clear A)
    |(go_at_call 279;(with_reducible refine(H.o _ (K.o _ _ O.o)).mono ?_);rintro e w2 ⟨rfl,rfl⟩)
    |(go_at_call 166;(with_reducible refine(N.o _ O.o).mono ?_);rintro e w3 ⟨E,A⟩;unfold ax at E;subst E;have J:=HF.o _ _ A;have a6:=(an J).1;have aa:=(an J).2.1;have a5:=(an J).2.2.1;have a7:=(an J).2.2.2;obtain⟨F2,O3⟩:=qh2 J A;clear A J))
   refine bodyPost_ret (v:=.agg #[.int .u8 (y:Nat),.int .u8 (v:Nat)]) (results_cell_row rfl _ _ b _ _ _ _ rfl (fh F2.o _ _) underlying225 rfl FW) rfl ?_
   exact⟨rfl,M.o _ _ O3.o _ _⟩
end
def ltR(k:Nat):Rm (Nat->Nat):=bnd (ownR k 0 λ_=>0) λo=>if kind o 19≠2 then fl 162 else pur o
theorem Br.notT{w:World}{b n:Nat}{f:Nat->Nat}(h:Br w b n f)(a:0<n):NoT w b:=⟨_,h.cell a,λz=>⟨λe=>(by cases e),λe=>(by cases e)⟩⟩
def KM(w:World)(B g q r:Nat)(s:ByteArray)(D L:Nat)(p:(Nat->Nat)×St)(e:Ending)(w':World):Prop:=
 ∃t r',e=.returned (.pointer (some ⟨t,0,none⟩))/\Kept (Ch g q r) w w'/\(r'=r\/w.heap.size<=r')/\In w' B g q r' s D L p.2/\Tb w' r' t p.1 19
theorem Lc:∀j,j<19->V.ord[j]? =some (od.getD j 0)/\od.getD j 0<19:=by decide
def Oc(w:World)(b:Nat):Prop:=b<w.heap.size/\∀i,i<19->w.cell? ⟨b,i,none⟩=some (.int .u8 (od.getD i 0:Nat))
theorem Oc.of{w w':World}{b:Nat}(h:Oc w b)(hs:w.heap.size<=w'.heap.size)(e:w'.heap[b]? =w.heap[b]?):Oc w' b:=
 ⟨Ag h.1 hs,λi hi=>(World.cell?_of_block (a:=⟨b,i,none⟩) e).trans (h.2 i hi)⟩
section
variable {w:World} {B g q r D L:Nat} {s:ByteArray} {x:St}
theorem EU(h:In w B g q r s D L x)(hs:s.size<=100000):Calls prog 166 #[.pointer (some ⟨g,0,none⟩),.int .i64 1] w (Out w B g q r s D L (bits 1 s D L x) ax):=bZ h hs 1 (by omega)
theorem ET(h:In w B g q r s D L x)(hs:s.size<=100000):Calls prog 166 #[.pointer (some ⟨g,0,none⟩),.int .i64 2] w (Out w B g q r s D L (bits 2 s D L x) ax):=bZ h hs 2 (by omega)
theorem Kf(h:In w B g q r s D L x)(hs:s.size<=100000):Calls prog 166 #[.pointer (some ⟨g,0,none⟩),.int .i64 3] w (Out w B g q r s D L (bits 3 s D L x) ax):=bZ h hs 3 (by omega)
theorem ES(h:In w B g q r s D L x)(hs:s.size<=100000):Calls prog 166 #[.pointer (some ⟨g,0,none⟩),.int .i64 4] w (Out w B g q r s D L (bits 4 s D L x) ax):=bZ h hs 4 (by omega)
theorem pE(h:In w B g q r s D L x)(hs:s.size<=100000):Calls prog 166 #[.pointer (some ⟨g,0,none⟩),.int .i64 5] w (Out w B g q r s D L (bits 5 s D L x) ax):=bZ h hs 5 (by omega)
theorem mq(h:In w B g q r s D L x)(hs:s.size<=100000)(k:Nat)(hk:k<=19):
 Calls prog 214 #[.pointer (some ⟨g,0,none⟩),.int .i64 k] w λe w'=>
  match ltR k s D L x with
  |.ok p=>KM w B g q r s D L p e w'
  |.error c=>e=.panicked (flt c)/\Kept (Ch g q r) w w':=by
 generalize hR:ltR k s D L x=R;unfold ltR at hR;obtain⟨F,d⟩:∃F,ownR k 0 (λ_=>0) s D L x=F:=⟨_,rfl⟩
 have a7:=λw=>jb w 19 (by omega)
 have G:=Br.made w 19;have Q:Kept NoB w (w.alloc (.cells (madeCells #[.int .u8 0] (19*1)) 5)):=(Kept.refl _ _).alloc _;have E:(w.alloc (.cells (madeCells #[.int .u8 0] (19*1)) 5)).heap.size=w.heap.size+1:=(by simp);generalize a5:w.alloc (.cells (madeCells #[.int .u8 0] (19*1)) 5)=wA at G Q E;have l:=a7 w;rw[a5] at l;generalize hb:w.heap.size=b at G E l;have a4:(Instr.makeSlice 26 (.int .i64 19) (.int .i64 19)).run prog w=.ok (.slice (some ⟨b,0,none⟩) 19 19) wA:=l;clear l;have hO:=V.order_p wA;rw[E] at hO;obtain⟨HO,a6⟩:=qh2 hO G;have aq:g<b:=(by have:=h.glt;omega);have au:q<b:=(by have:=h.rd.lt;omega);have ar:r<b:=(by have:=h.rlt;omega);obtain⟨HI,HK,HR,HF,Y⟩:=qh5 h Q hR d d;clear h G Q hO hR d a7;have ao:(k:Int)<=19:=(by omega);go_enter func214,ntmps214;go_wp2_with (go_at_call 258;(with_reducible refine HO.o.mono ?_);rintro e w1 ⟨rfl,o1,b1⟩;obtain⟨O1,B1⟩:=qh2 o1 b1;clear o1 b1);have a:Oc w1 (b+1):=by
  obtain⟨b',o',e1,e2,e3⟩:=O1.o.at (by decide);injection e1 with e1
  injection e1 with e1 e4
  subst e1;subst e4;exact⟨e2,λi hi=>by have:=e3 i hi;rw[Aa] at this;exact this⟩
 have O:Br w1 b 19 (λ_=>0):=a6.o.below B1.o (by omega);have X:Below wA.heap.size wA w1:=(by rw[E];exact B1.o);have a0:In w1 B g q r s D L x:=(HI.o.same HK.o).below X;have af:=qH ((HK.o.trans (Kept.of_below X) (λ_ e=>e.elim)).none (Ch g q r));obtain⟨I,K,ae⟩:=qh3 a O a0;have az:=a.1;clear a O a0 X O1 B1 a6 HO HI HK a4 a5
 go_loopw [13] (λi wr=> ∃ (j:Nat) (f:Nat->Nat) (x':St),j<=k/\i=.int .i64 j/\(∃r1,Kept (Ch g q r) w wr/\(r1=r\/w1.heap.size<=r1)/\w1.heap.size<=wr.heap.size/\In wr B g q r1 s D L x')/\Br wr b 19 f/\Oc wr (b+1)/\(∀t,f t<=7)/\ownR (k - j) j f s D L x'=F) (λi _=>k - (intOf i).toNat)
 case atStart=>exact⟨0,_,x,qZ,rfl,⟨r,af.o,.inl rfl,qR,ae.o⟩,K.o,I.o,λ_=>by omega,HF.o⟩
 case round=>
  obtain⟨j,f,x',hj,rfl,hS,C,a,A,d⟩:=hrel;clear HF ae K I af;obtain⟨r1,kk,n,ay,i1⟩:=hS;have an:b≠r1/\b+1≠r1:=(by rcases n with e|e<;>omega);have aj:r1=r\/w.heap.size<=r1:=n.imp id (λe=>by omega);obtain⟨ac,aa,a9,ai,am,I,ad⟩:=qh7 aj kk n i1 C a A;by_cases av:j<k
  · have e:ownR (k - j) j f s D L x'=bnd (bits 3) (λv=>ownR (k - (j+1)) (j+1) (λt=>if t=od.getD j 0 then v else f t)) s D L x':=by
     rw[show k - j=(k - (j+1))+1 by omega];rfl
    rw[e] at d;have a1:=(Lc j (by omega)).2;have ab:=a.2 j (by omega);have M:=Kf i1 hs;generalize ht:od.getD j 0=t at d a1 ab;clear e kk n i1 C a A ht;cases U:bits 3 s D L x' with
    |error c=>
     rw[ak U] at d;subst d;have hR:R=.error c:=(by rw[<-HR.o];exact ak Y.o);subst hR;rw[U] at M;have M:=qH M;clear U;go_wp2_with (go_at_call 166;(with_reducible refine M.o.mono ?_);rintro e T ⟨rfl,k5⟩;have K5:=qH k5;clear k5);exact⟨rfl,rfl,Kept.ch_trans aa.o K5.o ac.o⟩
    |ok pp=>
     obtain⟨v,x2⟩:=pp;rw[a8 U] at d;rw[U] at M;have hv:=(bu U 8 (by decide)).1;obtain⟨M,ah⟩:=qh2 M d;clear U d;go_wp2_with (go_at_call 166;(with_reducible refine M.o.mono ?_);rintro e T ⟨q1,q2⟩;unfold ax at q1;subst q1;have m:=am.o.at' (q2.kept.block b (by omega) (λe=>by rcases e with e|e|e<;>omega));have c5:=m.cell a1;have f5:=m.frozen t;obtain⟨O5,P⟩:=qh2 q2 m;clear q2 m);go_roundw
     case rel=>
      have N:Oc T (b+1):=I.o.of O5.o.kept.size (O5.o.kept.block (b+1) (by omega) (λe=>by rcases e with e|e|e<;>omega));have H:Kept (λj=>j=b) T (T.setCell ⟨b,t,none⟩ (.int .u8 (v:Nat))):=(Kept.refl (λj=>j=b) T).setCell ⟨b,t,none⟩ (.inl rfl) _;refine⟨j+1,_,x2,by omega,by go_num,?_,P.o.set t v,N.of H.size (H.block (b+1) N.1 (by omega)),λu=> ?_,ah.o⟩
      · obtain⟨k5,r2,al,i2⟩:=O5.o
        have aw:=k5.size;have a3:r2=r\/w1.heap.size<=r2:=by
         rcases al with e|e
         · rcases a9.o with e'|e'
           · exact .inl (e.trans e')
           · exact .inr (by omega)
         · exact .inr (by omega)
        exact⟨r2,(Kept.ch_trans aa.o k5 ac.o).trans H (λ_ e=> .inr (by omega)),a3,by rw[World.size_setCell];omega,i2.other H (by omega) (by omega) (by rcases a3 with e|e<;>omega) (Br.notT P.o (by omega))⟩
      · split
        · omega
        · exact ad.o u
     case measure=>simp[intOf];omega
  · obtain rfl:j=k:=by omega
    rw[Dj] at d;have ag:F=.ok (f,x'):=d.symm;subst ag;have hn:=C.nums;have y:R=if kind f 19≠2 then .error 162 else .ok (f,x'):=by
     rw[<-HR.o,a8 Y.o]
     split<;>rfl
    have Z:=qH kk;have S:=cE (some ⟨b,0,none⟩) 19 19 f wr (by unfold maxLen;omega) (λi=>by have:=A i;omega) hn;have J:=qH (show Calls prog 259 #[.slice (some ⟨b,0,none⟩) 19 19] wr λe w'=>e=.returned (.int .u8 (kind f 19))/\Below wr.heap.size wr w' from S);obtain⟨z,hz⟩:∃z,kind f 19=z:=⟨_,rfl⟩
    rw[hz] at J y;have ap:z<=5:=(by rw[<-hz];exact uB f 19);by_cases h2:z=2
    · subst h2
      rw[A0 (by decide)] at y;subst y;have hT:Tbl f 19:=.inr (.inr hz);have HT:=qH (λ(W:World) (hb:Below wr.heap.size wr W)=>sC (some ⟨b,0,none⟩) 19 19 f W (λi=>by have:=ad.o i;omega) (hn.below hb) hT);unfold EZ at HT;have a2:=qH (show Calls prog 259 #[.slice (some ⟨b,0,none⟩) 19 19] wr λe w'=>e=.returned (.int .u8 2)/\Below wr.heap.size wr w' from J.o);clear d kk n i1 C a hn S J hz hT A
      go_wp2_with (first
       |(go_at_call 259;(with_reducible refine a2.o.mono ?_);rintro e T ⟨rfl,b5⟩;have B5:=qH b5;clear b5)
       |(go_at_call 254;(with_reducible refine(HT.o _ B5.o).mono ?_);rintro e w6 ⟨p,rfl,hp,b6,t6⟩;obtain⟨B6,T6⟩:=qh2 b6 t6;clear b6 t6))
      go_ret;have i5:=ai.o.below B5.o;have i6:=i5.below B6.o;refine⟨p,r1,rfl,?_,?_,i6,T6.o r1 i5.rlt⟩
      · exact(Z.o.trans (Kept.of_below B5.o) (λ_ e=>e.elim)).trans (Kept.of_below B6.o) (λ_ e=>e.elim)
      · rcases a9.o with e|e
        · exact .inl e
        · exact .inr (by omega)
    · rw[A7 h2] at y
      subst y;have d0:((z:Int) !=2)=true:=(by rw[AQ];omega);clear d kk n i1 C a hn S hz A
      go_wp2_with (first
       |(go_at_call 259;(with_reducible refine J.o.mono ?_);rintro e T ⟨rfl,b5⟩;have B5:=qH b5;clear b5)
       |(go_at_call 171;(with_reducible refine(bF _).mono ?_);rintro e w4 ⟨rfl,k4⟩;have K4:=qH k4;clear k4))
      exact⟨rfl,rfl,(Z.o.trans (Kept.of_below B5.o) (λ_ e=>e.elim)).trans K4.o (λ_ e=>e.elim)⟩
