import Derived.Test.YthgilhebnlglkaaGreatDoorEMIfU
import Derived.Test.YthgilhebnlglkaaGreatDoorEBpB
set_option linter.all false
set_option maxHeartbeats 8000000
set_option maxRecDepth 1000000
open Go.Proofs.Tryz
namespace Go.Proofs.YthgilhebnlglkaaGreatDoor.I
open Go Go.RowKit M
def zg0(W:World)(l:Nat->Nat)(n:Nat)(e:Ending)(w':World):Prop:=∃p,e=.returned (.pointer (some ⟨p,0,none⟩))/\W.heap.size<=p/\Below W.heap.size W w'/\∀r,r<W.heap.size->Tb w' r p l n
def z3K(W:World)(c:Nat)(e:Ending)(w':World):Prop:=e=.panicked (flt c)/\Below W.heap.size W w'
theorem kb{w w':World}(hk:Kept NoB w w'):Below w.heap.size w w':=hk.below qR (λ_ e=>e.elim)
theorem z1z(A:Option Addr)(n c:Nat)(l:Nat->Nat)(f:Nat)(W:World)(hl:∀i,l i<=255)(Hn:z0e W .u8 A n (λi=>(l i:Int)))(ht:Tbl l n)(h1:1<=f)(hf:f<=15):
 Calls prog 254 #[.slice A n c,.int .i64 f] W (zg0 W l n):=by
 have HN:=qH (H.new_ok_any A n c l f W hl Hn ht h1 hf);have HT:=qH ht;clear Hn hl ht;unfold zg0;go_enter func254,ntmps254;go_wp2_with (go_at_call 288;(with_reducible refine HN.o.mono ?_);rintro e w1 ⟨T,p,m,G,N,D,rfl,hp,hq,hb⟩;obtain⟨HQ,HB⟩:=qh2 hq hb;clear hq hb);go_ret;exact⟨p,rfl,hp,HB.o,λr hr=>⟨HT.o,by omega,T,m,G,N,D,f,h1,hf,HQ.o⟩⟩
theorem z3P(A:Option Addr)(n c:Nat)(l:Nat->Nat)(f:Nat)(W:World)(hn:n<=maxLen)(hl:∀i,l i<=255)(Hn:z0e W .u8 A n (λi=>(l i:Int)))(ht:¬Tbl l n)(h1:1<=f)(hf:f<=15):
 Calls prog 254 #[.slice A n c,.int .i64 f] W (z3K W 162):=by
 have hne:H.nerr l n f≠0:=λe=>ht (H.nerr_ok e).2
 have hle:H.nerr l n f<=7:=(by unfold H.nerr;split<;>(try split)<;>omega);have HN:=qH (H.new_no_any A n c l f W hn hl Hn hne);generalize hE:H.nerr l n f=E at HN hne hle;have d0:((E:Int) !=0)=true:=(by rw[bne_iff_ne];omega);clear Hn hl ht hE hn;unfold z3K;go_enter func254,ntmps254
 go_wp2_with (first
  |(go_at_call 288;(with_reducible refine HN.o.mono ?_);rintro e w1 ⟨rfl,hb⟩;have HB:=qH hb;clear hb)
  |(go_at_call 171;(with_reducible refine(z0O _).mono ?_);rintro e w4 ⟨rfl,k4⟩;have K4:=qH k4;clear k4))
 exact⟨rfl,rfl,HB.o.trans ((kb K4.o).mono HB.o.size)⟩
theorem z5d(A:Option Addr)(n c:Nat)(l:Nat->Nat)(W:World)(hl:∀i,l i<=255)(Hn:z0e W .u8 A n (λi=>(l i:Int)))(ht:Tbl l n):Calls prog 254 #[.slice A n c,.int .i64 9] W (zg0 W l n):=z1z A n c l 9 W hl Hn ht (by omega) (by omega)
theorem z8A(A:Option Addr)(n c:Nat)(l:Nat->Nat)(W:World)(hn:n<=maxLen)(hl:∀i,l i<=255)(Hn:z0e W .u8 A n (λi=>(l i:Int)))(ht:¬Tbl l n):Calls prog 254 #[.slice A n c,.int .i64 9] W (z3K W 162):=z3P A n c l 9 W hn hl Hn ht (by omega) (by omega)
theorem z9U(A:Option Addr)(n c:Nat)(l:Nat->Nat)(W:World)(hl:∀i,l i<=255)(Hn:z0e W .u8 A n (λi=>(l i:Int)))(ht:Tbl l n):Calls prog 254 #[.slice A n c,.int .i64 6] W (zg0 W l n):=z1z A n c l 6 W hl Hn ht (by omega) (by omega)
theorem z8B(A:Option Addr)(n c:Nat)(l:Nat->Nat)(W:World)(hn:n<=maxLen)(hl:∀i,l i<=255)(Hn:z0e W .u8 A n (λi=>(l i:Int)))(ht:¬Tbl l n):Calls prog 254 #[.slice A n c,.int .i64 6] W (z3K W 162):=z3P A n c l 6 W hn hl Hn ht (by omega) (by omega)
theorem z9T(A:Option Addr)(n c:Nat)(l:Nat->Nat)(W:World)(hl:∀i,l i<=255)(Hn:z0e W .u8 A n (λi=>(l i:Int)))(ht:Tbl l n):Calls prog 254 #[.slice A n c,.int .i64 7] W (zg0 W l n):=z1z A n c l 7 W hl Hn ht (by omega) (by omega)
def zeV(W:World)(l:Nat->Nat)(n:Nat)(d:Nat->Nat)(m:Nat)(e:Ending)(w':World):Prop:=∃p1 p2,e=.returned (.agg #[.pointer (some ⟨p1,0,none⟩),.pointer (some ⟨p2,0,none⟩)])/\W.heap.size<=p1/\W.heap.size<=p2/\Below W.heap.size W w'/\∀r,r<W.heap.size->Tb w' r p1 l n/\Tb w' r p2 d m
theorem Tb.below{w w':World}{r p n:Nat}{l:Nat->Nat}(h:Tb w r p l n)(hb:Below w.heap.size w w'):Tb w' r p l n:=by
 obtain⟨T,m,G,N,D,f,f1,f2,hp⟩:=h.ex;exact⟨h.tbl,h.ne,T,m,G,N,D,f,f1,f2,hp.below hb⟩
theorem z2r:(prog.info? 177).map (λi=>i.size)=some 2:=by kernel_rfl
theorem z2S{w:World}{b:Nat}{T:TypeId}{x y:Value}(h:w.heap[b]? =some (.cells #[x,y] T (0,0)))(u v:Value):((w.setCell ⟨b,0,none⟩ u).setCell ⟨b,1,none⟩ v).heap[b]? =some (.cells #[u,v] T (0,0)):=by
 have h1:(w.setCell ⟨b,0,none⟩ u).heap[b]? =some (.cells #[u,y] T (0,0)):=by
  rw[setCell_eq_setRow w b 0 _ _ _ _ h,setRow_heap w b _ _ _ _ h];rfl
 rw[setCell_eq_setRow _ b 1 _ _ _ _ h1,setRow_heap _ b _ _ _ _ h1];rfl
theorem z07{w:World}{b:Nat}{T:TypeId}{x y:Value}(h:w.heap[b]? =some (.cells #[x,y] T (0,0))):w.cell? ⟨b,0,none⟩=some x/\w.cell? ⟨b,1,none⟩=some y/\w.frozen? ⟨b,0,none⟩=false/\w.frozen? ⟨b,1,none⟩=false:=by
 refine⟨?_,?_,?_,?_⟩<;>simp[World.cell?,World.frozen?,h]
theorem Tb.keptN{S:Nat->Prop}{w w':World}{r p n:Nat}{l:Nat->Nat}(h:Tb w r p l n)(hk:Kept S w w')(hS:∀j,S j->NoT w j):Tb w' r p l n:=by
 obtain⟨T,m,G,N,D,f,f1,f2,hp⟩:=h.ex;have hm:∃es clock,w.heap[m]? =some (.map es clock):=by
  obtain⟨es,clock,e1,_⟩:=hp.own;exact⟨es,clock,e1⟩
 refine⟨h.tbl,h.ne,T,m,G,N,D,f,f1,f2,Hp.kept hp hk (λq=> ?_) (λq=> ?_) (λb s z e q=> ?_)⟩
 · obtain⟨v,g1,g2⟩:=hS _ q
   rw[hp.c0] at g1;cases g1;exact(g2 _).1 rfl
 · obtain⟨es,clock,e⟩:=hm
   obtain⟨v,g1,g2⟩:=hS _ q;rw[z4S e] at g1;cases g1
 · obtain⟨v,g1,g2⟩:=hS _ q
   have:=(hp.rows b s z e).cell1 (i:=0) (Nat.two_pow_pos z);rw[Nat.zero_mul,g1] at this;cases this;exact(g2 _).2 rfl
theorem Tb.two{w:World}{r p n b:Nat}{l:Nat->Nat}(h:Tb w r p l n){T:TypeId}{x y:Value}(hb:w.heap[b]? =some (.cells #[x,y] T (0,0)))(hx:∀z,x≠.int .i64 z/\x≠.int .u16 z)(u v:Value):Tb ((w.setCell ⟨b,0,none⟩ u).setCell ⟨b,1,none⟩ v) r p l n:=
 h.keptN (((Kept.refl (λj=>j=b) w).setCell ⟨b,0,none⟩ (.inl rfl) u).setCell ⟨b,1,none⟩ (.inl rfl) v) (λj e=>⟨x,by rw[e];exact(z07 hb).1,hx⟩)
theorem z2i(A A2:Option Addr)(n c n2 c2:Nat)(l d:Nat->Nat)(W:World)(hl:∀i,l i<=255)(hd:∀i,d i<=255)(H1:z0e W .u8 A n (λi=>(l i:Int)))(H2:z0e W .u8 A2 n2 (λi=>(d i:Int)))(t1:Tbl l n)(t2:Tbl d n2):
 Calls prog 210 #[.slice A n c,.slice A2 n2 c2] W (zeV W l n d n2):=by
 have bw:Below W.heap.size W (W.alloc (.cells #[.pointer none,.pointer none] 177)):=(Below.refl _ W).alloc qR _;have hnew:(W.alloc (.cells #[.pointer none,.pointer none] 177)).heap[W.heap.size]? =some (.cells #[.pointer none,.pointer none] 177 (0,0)):=heap_alloc_new _ _;obtain⟨w0,hw0⟩:∃w0,W.alloc (.cells #[.pointer none,.pointer none] 177)=w0:=⟨_,rfl⟩
 have hs0:w0.heap.size=W.heap.size+1:=(by rw[<-hw0];simp);have HA:=z5d A n c l (W.alloc (.cells #[.pointer none,.pointer none] 177)) hl (H1.below bw) t1;have HB:=qH (λ(w':World) (hb:Below W.heap.size W w')=>z9U A2 n2 c2 d w' hd (H2.below hb) t2);rw[hw0] at HA bw hnew;unfold zg0 at HA HB;obtain⟨HA,HN,HBw⟩:=qh3 HA hnew bw;clear H1 H2 hl hd hnew bw t1 t2;unfold zeV;go_enter func210,ntmps210
 go_wp2_with (first
  |(go_at_call 254;(with_reducible refine HA.o.mono ?_);rintro e w1 ⟨p1,rfl,hp1,b1,q1⟩;obtain⟨B1,Q1⟩:=qh2 b1 q1;clear b1 q1)
  |(go_at_call 254;(with_reducible refine(HB.o _ (HBw.o.trans (B1.o.mono HBw.o.size))).mono ?_);rintro e w2 ⟨p2,rfl,hp2,b2,q2⟩;have f2:=(b2.block W.heap.size (by have:=B1.o.size;omega)).trans ((B1.o.block W.heap.size (by omega)).trans HN.o);have f20:=(z07 f2).1;have f21:=(z07 f2).2.1;have f22:=(z07 f2).2.2.1;have f23:=(z07 f2).2.2.2;obtain⟨F2,B2,Q2⟩:=qh3 f2 b2 q2;clear b2 q2 f2))
 refine bodyPost_ret (v:=.agg #[.pointer (some ⟨p1,0,none⟩),.pointer (some ⟨p2,0,none⟩)]) (results_cell_row rfl _ _ W.heap.size _ _ _ _ rfl (z2S F2.o _ _) underlying177 rfl z2r) rfl ?_
 have hb2:Below W.heap.size W w2:=HBw.o.trans ((B1.o.mono HBw.o.size).trans (B2.o.mono (qK HBw.o.size B1.o.size)));refine⟨p1,p2,rfl,by omega,by have:=B1.o.size;omega,(hb2.setCell (p:=⟨W.heap.size,0,none⟩) qR _).setCell (p:=⟨W.heap.size,1,none⟩) qR _,λr hr=>⟨?_,?_⟩⟩
 · exact((Q1.o r (by omega)).below B2.o).two F2.o (λ_=>⟨λe=>(by cases e),λe=>(by cases e)⟩) _ _
 · exact(Q2.o r (by have:=B1.o.size;omega)).two F2.o (λ_=>⟨λe=>(by cases e),λe=>(by cases e)⟩) _ _
theorem z69(A A2:Option Addr)(n c n2 c2:Nat)(l d:Nat->Nat)(W:World)(hn:n<=maxLen)(hn2:n2<=maxLen)(hl:∀i,l i<=255)(hd:∀i,d i<=255)(H1:z0e W .u8 A n (λi=>(l i:Int)))(H2:z0e W .u8 A2 n2 (λi=>(d i:Int)))(ht:¬Tbl l n\/¬Tbl d n2):
 Calls prog 210 #[.slice A n c,.slice A2 n2 c2] W (z3K W 162):=by
 have bw:Below W.heap.size W (W.alloc (.cells #[.pointer none,.pointer none] 177)):=(Below.refl _ W).alloc qR _;obtain⟨w0,hw0⟩:∃w0,W.alloc (.cells #[.pointer none,.pointer none] 177)=w0:=⟨_,rfl⟩
 by_cases t1:Tbl l n
 · have t2:¬Tbl d n2:=ht.resolve_left (λg=>g t1)
   have HA:=z5d A n c l (W.alloc (.cells #[.pointer none,.pointer none] 177)) hl (H1.below bw) t1;have HB:=qH (λ(w':World) (hb:Below W.heap.size W w')=>z8B A2 n2 c2 d w' hn2 hd (H2.below hb) t2);rw[hw0] at HA bw;unfold zg0 at HA;unfold z3K at HB;obtain⟨HA,HBw⟩:=qh2 HA bw;clear H1 H2 hl hd bw t1 t2 ht hn hn2;unfold z3K;go_enter func210,ntmps210
   go_wp2_with (first
    |(go_at_call 254;(with_reducible refine HA.o.mono ?_);rintro e w1 ⟨p1,rfl,hp1,b1,q1⟩;have B1:=qH b1;clear b1 q1)
    |(go_at_call 254;(with_reducible refine(HB.o _ (HBw.o.trans (B1.o.mono HBw.o.size))).mono ?_);rintro e w2 ⟨rfl,b2⟩;have B2:=qH b2;clear b2))
   exact⟨rfl,rfl,HBw.o.trans ((B1.o.mono HBw.o.size).trans (B2.o.mono (qK HBw.o.size B1.o.size)))⟩
 · have HA:=z8A A n c l (W.alloc (.cells #[.pointer none,.pointer none] 177)) hn hl (H1.below bw) t1
   rw[hw0] at HA bw;unfold z3K at HA;obtain⟨HA,HBw⟩:=qh2 HA bw;clear H1 H2 hl hd bw t1 ht hn hn2;unfold z3K;go_enter func210,ntmps210;go_wp2_with (go_at_call 254;(with_reducible refine HA.o.mono ?_);rintro e w1 ⟨rfl,b1⟩;have B1:=qH b1;clear b1);exact⟨rfl,rfl,HBw.o.trans (B1.o.mono HBw.o.size)⟩
theorem In.other{w w':World}{B g q r D L b:Nat}{s:ByteArray}{x:St}(h:In w B g q r s D L x)(hk:Kept (λj=>j=b) w w')(h1:b≠g)(h2:b≠q)(h3:b≠r)(hb:NoT w b):In w' B g q r s D L x:=by
 obtain⟨cp,v3,v4,e1,e2,e3⟩:=h.row;exact⟨h.gb,h.rb,h.qr,h.rd.keep hk (λe=>h2 e.symm),⟨cp,v3,v4,(hk.block g h.glt (λe=>h1 e.symm)).trans e1,e2.kept hk (λe=>h3 e.symm),e3.kept e2.typ hk (λj e=> .inr (by rw[e];exact hb))⟩,h.dl,h.ll⟩
def z9r(l:Nat->Nat):Rm (Nat×Nat):=bnd (nxt l 19) λy=>bnd (bits (rbm y)) λe=>pur (y,e)
def zku(p:Nat×Nat)(e:Ending)(_:World):Prop:=e=.returned (.agg #[.int .u8 (p.1:Nat),.int .u8 (p.2:Nat)])
theorem ziB(y:Nat):rbm y<=7:=by unfold rbm;split<;>(try split)<;>(try split)<;>omega
theorem ziC{y:Nat}(h:y<=18):max (rbs y) 0=((rbm y:Nat):Int):=by
 have:∀y,y<=18->max (rbs y) 0=((rbm y:Nat):Int):=(by decide);exact this y h
theorem zgw:(prog.info? 225).map (λi=>i.size)=some 2:=by kernel_rfl
section
variable {w:World} {B g q r D L:Nat} {s:ByteArray} {x:St}
theorem zjW(h:In w B g q r s D L x)(hs:s.size<=100000)(ht:TB B w){p:Nat}{l:Nat->Nat}(tt:Tb w r p l 19):
 Calls prog 255 #[.pointer (some ⟨g,0,none⟩),.pointer (some ⟨p,0,none⟩)] w (Out w B g q r s D L (z9r l s D L x) zku):=by
 generalize hR:z9r l s D L x=R;unfold z9r at hR;have hkA:Kept NoB w (w.alloc (.cells #[.int .u8 0,.int .u8 0] 225)):=(Kept.refl _ _).alloc _;have hnew:(w.alloc (.cells #[.int .u8 0,.int .u8 0] 225)).heap[w.heap.size]? =some (.cells #[.int .u8 0,.int .u8 0] 225 (0,0)):=heap_alloc_new _ _;have hsz:(w.alloc (.cells #[.int .u8 0,.int .u8 0] 225)).heap.size=w.heap.size+1:=(by simp);generalize hw0:w.alloc (.cells #[.int .u8 0,.int .u8 0] 225)=w0 at hkA hnew hsz;generalize hb:w.heap.size=b at hnew hsz;have i0:=h.same hkA;have t0:Tb w0 r p l 19:=tt.kept h.byt hkA (λ_ e=>e.elim);have hgb:g<b:=(by have:=h.glt;omega);have hqb:q<b:=(by have:=h.rd.lt;omega);have hrb:r<b:=(by have:=h.rlt;omega);have hxl:=h.rd.le;have htb0:TB B w0:=ht.go (h.bl (hkA.none _));have HN:=qH (zaV i0 hs t0)
 have HF:=qH (λ(W:World) (y:St) (o:Res w0 B g q r s D L y W)=>(show W.heap[b]? =some (.cells #[.int .u8 0,.int .u8 0] 225 (0,0)) from
  (o.kept.block b (by omega) (λe=>by rcases e with e|e|e<;>omega)).trans hnew))
 have HTb:=qH (λ(W:World) (y:St) (o:Res w0 B g q r s D L y W)=>(show U.Tab W from(htb0.go (i0.bl o.kept)).here.1));have HE:=qH (λ(c:Nat) (W:World) (k:Kept (Ch g q r) w0 W)=>(show Kept (Ch g q r) w W from(hkA.none _).trans k (λ_ e=> .inl e)))
 have HEnd:=qH (λ(W:World) (y:St) (o:Res w0 B g q r s D L y W) (u v:Value)=>(show Res w B g q r s D L y ((W.setCell ⟨b,0,none⟩ u).setCell ⟨b,1,none⟩ v) from by
  have hWb:W.heap[b]? =some (.cells #[.int .u8 0,.int .u8 0] 225 (0,0)):=(o.kept.block b (by omega) (λe=>by rcases e with e|e|e<;>omega)).trans hnew;obtain⟨k,r',hr',i⟩:=o;have k2:Kept (λj=>j=b) W ((W.setCell ⟨b,0,none⟩ u).setCell ⟨b,1,none⟩ v):=((Kept.refl (λj=>j=b) W).setCell ⟨b,0,none⟩ (.inl rfl) u).setCell ⟨b,1,none⟩ (.inl rfl) v;refine⟨((hkA.none _).trans k (λ_ e=> .inl e)).trans k2 (λj e=> .inr (by omega)),r',?_,i.other k2 (by omega) (by omega) (by omega) ⟨_,(z07 hWb).1,λz=>⟨λe=>(by cases e),λe=>(by cases e)⟩⟩⟩;rcases hr' with e|e
  · exact .inl e
  · exact .inr (by omega)))
 clear h tt ht hkA hnew i0 t0 htb0;cases hn:nxt l 19 s D L x with
 |error c=>
  rw[z03 hn] at hR;subst hR;rw[hn] at HN;clear hn;go_enter func255,ntmps255;go_wp2_with (go_at_call 215;(with_reducible refine HN.o.mono ?_);rintro e w1 ⟨rfl,k1⟩;have K1:=qH k1;clear k1);exact⟨rfl,rfl,HE.o c _ K1.o⟩
 |ok pp=>
  obtain⟨y,x1⟩:=pp;rw[hn] at HN;rw[z00 hn] at hR;have hy:y<=18:=(by have:=(z15 hn hxl).2.1;omega);have hm7:=ziB y;have hBs:∀W,U.Tab W->Calls prog 279 #[.int .u8 y] W λe w'=>e=.returned (.tuple #[.int .i64 (rbm y:Nat),.bool (decide (0<=rbs y))])/\W=w':=λW hT=>by
   have:=U.bits_any y W hT (by omega);rw[ziC hy] at this;exact this
  generalize hbb:(decide (0<=rbs y))=bb at hBs;have HBs:=qH hBs;have HB:=qH (λ(W:World) (o:Res w0 B g q r s D L x1 W)=>(show Calls prog 166 #[.pointer (some ⟨g,0,none⟩),.int .i64 (rbm y:Nat)] W (Out w0 B g q r s D L (bits (rbm y) s D L x1) z0h) from o.lift (λr i=>z17 i hs (rbm y) (by omega))));generalize hm:rbm y=m at HB HBs hR hm7;clear hn hBs hbb;cases h2:bits m s D L x1 with
  |error c=>
   rw[z03 h2] at hR;subst hR;rw[h2] at HB;clear h2;go_enter func255,ntmps255
   go_wp2_with (first
    |(go_at_call 215;(with_reducible refine HN.o.mono ?_);rintro e w1 ⟨q1,q2⟩;unfold z0h at q1;subst q1;have O1:=qH q2;clear q2)
    |(go_at_call 279;(with_reducible refine(HBs.o _ (HTb.o _ _ O1.o)).mono ?_);rintro e w2 ⟨rfl,rfl⟩)
    |(go_at_call 166;(with_reducible refine(HB.o _ O1.o).mono ?_);rintro e w3 ⟨rfl,k3⟩;have K3:=qH k3;clear k3))
   exact⟨rfl,rfl,HE.o c _ K3.o⟩
  |ok pp=>
   obtain⟨v,x2⟩:=pp;rw[z00 h2] at hR;rw[h2] at HB;have hv:=(z0l h2 128 (by have:2^m<=2^7:=Nat.pow_le_pow_right (by decide) hm7;omega)).1;have hR':R=.ok ((y,v),x2):=hR.symm;subst hR';clear h2 hR;go_enter func255,ntmps255
   go_wp2_with (first
    |(go_at_call 215;(with_reducible refine HN.o.mono ?_);rintro e w1 ⟨q1,q2⟩;unfold z0h at q1;subst q1;have O1:=qH q2;clear q2)
    |(go_at_call 279;(with_reducible refine(HBs.o _ (HTb.o _ _ O1.o)).mono ?_);rintro e w2 ⟨rfl,rfl⟩)
    |(go_at_call 166;(with_reducible refine(HB.o _ O1.o).mono ?_);rintro e w3 ⟨q1,q2⟩;unfold z0h at q1;subst q1;have f2:=HF.o _ _ q2;have f20:=(z07 f2).1;have f21:=(z07 f2).2.1;have f22:=(z07 f2).2.2.1;have f23:=(z07 f2).2.2.2;obtain⟨F2,O3⟩:=qh2 f2 q2;clear q2 f2))
   refine bodyPost_ret (v:=.agg #[.int .u8 (y:Nat),.int .u8 (v:Nat)]) (results_cell_row rfl _ _ b _ _ _ _ rfl (z2S F2.o _ _) underlying225 rfl zgw) rfl ?_
   exact⟨rfl,HEnd.o _ _ O3.o _ _⟩
end
def ltR(k:Nat):Rm (Nat->Nat):=bnd (ownR k 0 λ_=>0) λo=>if kind o 19≠2 then fl 162 else pur o
theorem Br.notT{w:World}{b n:Nat}{f:Nat->Nat}(h:Br w b n f)(hn:0<n):NoT w b:=⟨_,h.cell hn,λz=>⟨λe=>(by cases e),λe=>(by cases e)⟩⟩
def zjI(w:World)(B g q r:Nat)(s:ByteArray)(D L:Nat)(p:(Nat->Nat)×St)(e:Ending)(w':World):Prop:=
 ∃t r',e=.returned (.pointer (some ⟨t,0,none⟩))/\Kept (Ch g q r) w w'/\(r'=r\/w.heap.size<=r')/\In w' B g q r' s D L p.2/\Tb w' r' t p.1 19
theorem zk3:∀j,j<19->V.ord[j]? =some (od.getD j 0)/\od.getD j 0<19:=by decide
def Oc(w:World)(b:Nat):Prop:=b<w.heap.size/\∀i,i<19->w.cell? ⟨b,i,none⟩=some (.int .u8 (od.getD i 0:Nat))
theorem Oc.of{w w':World}{b:Nat}(h:Oc w b)(hs:w.heap.size<=w'.heap.size)(e:w'.heap[b]? =w.heap[b]?):Oc w' b:=
 ⟨Nat.lt_of_lt_of_le h.1 hs,λi hi=>(World.cell?_of_block (a:=⟨b,i,none⟩) e).trans (h.2 i hi)⟩
section
variable {w:World} {B g q r D L:Nat} {s:ByteArray} {x:St}
theorem zfS(h:In w B g q r s D L x)(hs:s.size<=100000):Calls prog 166 #[.pointer (some ⟨g,0,none⟩),.int .i64 1] w (Out w B g q r s D L (bits 1 s D L x) z0h):=z17 h hs 1 (by omega)
theorem zfR(h:In w B g q r s D L x)(hs:s.size<=100000):Calls prog 166 #[.pointer (some ⟨g,0,none⟩),.int .i64 2] w (Out w B g q r s D L (bits 2 s D L x) z0h):=z17 h hs 2 (by omega)
theorem zjm(h:In w B g q r s D L x)(hs:s.size<=100000):Calls prog 166 #[.pointer (some ⟨g,0,none⟩),.int .i64 3] w (Out w B g q r s D L (bits 3 s D L x) z0h):=z17 h hs 3 (by omega)
theorem zfQ(h:In w B g q r s D L x)(hs:s.size<=100000):Calls prog 166 #[.pointer (some ⟨g,0,none⟩),.int .i64 4] w (Out w B g q r s D L (bits 4 s D L x) z0h):=z17 h hs 4 (by omega)
theorem z8e(h:In w B g q r s D L x)(hs:s.size<=100000):Calls prog 166 #[.pointer (some ⟨g,0,none⟩),.int .i64 5] w (Out w B g q r s D L (bits 5 s D L x) z0h):=z17 h hs 5 (by omega)
theorem z6v(h:In w B g q r s D L x)(hs:s.size<=100000)(k:Nat)(hk:k<=19):
 Calls prog 214 #[.pointer (some ⟨g,0,none⟩),.int .i64 k] w λe w'=>
  match ltR k s D L x with
  |.ok p=>zjI w B g q r s D L p e w'
  |.error c=>e=.panicked (flt c)/\Kept (Ch g q r) w w':=by
 generalize hR:ltR k s D L x=R;unfold ltR at hR;obtain⟨F,hF⟩:∃F,ownR k 0 (λ_=>0) s D L x=F:=⟨_,rfl⟩
 have hmk:=λw=>madeByte w 19 (by omega)
 have hB0:=Br.made w 19;have hkA:Kept NoB w (w.alloc (.cells (madeCells #[.int .u8 0] (19*1)) 5)):=(Kept.refl _ _).alloc _;have hsz:(w.alloc (.cells (madeCells #[.int .u8 0] (19*1)) 5)).heap.size=w.heap.size+1:=(by simp);generalize hwA:w.alloc (.cells (madeCells #[.int .u8 0] (19*1)) 5)=wA at hB0 hkA hsz;have hmk0:=hmk w;rw[hwA] at hmk0;generalize hb:w.heap.size=b at hB0 hsz hmk0;have hmk1:(Instr.makeSlice 26 (.int .i64 19) (.int .i64 19)).run prog w=.ok (.slice (some ⟨b,0,none⟩) 19 19) wA:=hmk0;clear hmk0;have hO:=V.order_p wA;rw[hsz] at hO;obtain⟨HO,HB0⟩:=qh2 hO hB0;have hgb:g<b:=(by have:=h.glt;omega);have hqb:q<b:=(by have:=h.rd.lt;omega);have hrb:r<b:=(by have:=h.rlt;omega);obtain⟨HI,HK,HR,HF,HFx⟩:=qh5 h hkA hR hF hF;clear h hB0 hkA hO hR hF hmk;have hk1:(k:Int)<=19:=(by omega);go_enter func214,ntmps214;go_wp2_with (go_at_call 258;(with_reducible refine HO.o.mono ?_);rintro e w1 ⟨rfl,o1,b1⟩;obtain⟨O1,B1⟩:=qh2 o1 b1;clear o1 b1);have hoc:Oc w1 (b+1):=by
  obtain⟨b',o',e1,e2,e3⟩:=O1.o.at (by decide);injection e1 with e1
  injection e1 with e1 e4
  subst e1;subst e4;exact⟨e2,λi hi=>by have:=e3 i hi;rw[Nat.zero_add] at this;exact this⟩
 have hbr1:Br w1 b 19 (λ_=>0):=HB0.o.below B1.o (by omega);have hB9:Below wA.heap.size wA w1:=(by rw[hsz];exact B1.o);have hI1:In w1 B g q r s D L x:=(HI.o.same HK.o).below hB9;have HK1:=qH ((HK.o.trans (Kept.of_below hB9) (λ_ e=>e.elim)).none (Ch g q r));obtain⟨HOc,HBr1,HI0⟩:=qh3 hoc hbr1 hI1;have hb1:=hoc.1;clear hoc hbr1 hI1 hB9 O1 B1 HB0 HO HI HK hmk1 hwA
 go_loopw [13] (λi wr=> ∃ (j:Nat) (f:Nat->Nat) (x':St),j<=k/\i=.int .i64 j/\(∃r1,Kept (Ch g q r) w wr/\(r1=r\/w1.heap.size<=r1)/\w1.heap.size<=wr.heap.size/\In wr B g q r1 s D L x')/\Br wr b 19 f/\Oc wr (b+1)/\(∀t,f t<=7)/\ownR (k - j) j f s D L x'=F) (λi _=>k - (intOf i).toNat)
 case atStart=>exact⟨0,_,x,qZ,rfl,⟨r,HK1.o,.inl rfl,qR,HI0.o⟩,HBr1.o,HOc.o,λ_=>by omega,HF.o⟩
 case round=>
  obtain⟨j,f,x',hj,rfl,hS,hbr,hoc,hf7,hF⟩:=hrel;clear HF HI0 HBr1 HOc HK1;obtain⟨r1,kk,hr1,hwr,i1⟩:=hS;have hr1b:b≠r1/\b+1≠r1:=(by rcases hr1 with e|e<;>omega);have hrw:r1=r\/w.heap.size<=r1:=hr1.imp id (λe=>by omega);obtain⟨HRW,HKK,HR1,HI1,HBr,HOc,HF7⟩:=qh7 hrw kk hr1 i1 hbr hoc hf7;by_cases hlt:j<k
  · have e:ownR (k - j) j f s D L x'=bnd (bits 3) (λv=>ownR (k - (j+1)) (j+1) (λt=>if t=od.getD j 0 then v else f t)) s D L x':=by
     rw[show k - j=(k - (j+1))+1 by omega];rfl
    rw[e] at hF;have hod:=(zk3 j (by omega)).2;have hoc1:=hoc.2 j (by omega);have HN:=zjm i1 hs;generalize ht:od.getD j 0=t at hF hod hoc1;clear e kk hr1 i1 hbr hoc hf7 ht;cases h3:bits 3 s D L x' with
    |error c=>
     rw[z03 h3] at hF;subst hF;have hR:R=.error c:=(by rw[<-HR.o];exact z03 HFx.o);subst hR;rw[h3] at HN;have HN:=qH HN;clear h3;go_wp2_with (go_at_call 166;(with_reducible refine HN.o.mono ?_);rintro e w5 ⟨rfl,k5⟩;have K5:=qH k5;clear k5);exact⟨rfl,rfl,Kept.ch_trans HKK.o K5.o HRW.o⟩
    |ok pp=>
     obtain⟨v,x2⟩:=pp;rw[z00 h3] at hF;rw[h3] at HN;have hv:=(z0l h3 8 (by decide)).1;obtain⟨HN,HF2⟩:=qh2 HN hF;clear h3 hF;go_wp2_with (go_at_call 166;(with_reducible refine HN.o.mono ?_);rintro e w5 ⟨q1,q2⟩;unfold z0h at q1;subst q1;have hbr5:=HBr.o.at' (q2.kept.block b (by omega) (λe=>by rcases e with e|e|e<;>omega));have c5:=hbr5.cell hod;have f5:=hbr5.frozen t;obtain⟨O5,HBr5⟩:=qh2 q2 hbr5;clear q2 hbr5);go_roundw
     case rel=>
      have hoc5:Oc w5 (b+1):=HOc.o.of O5.o.kept.size (O5.o.kept.block (b+1) (by omega) (λe=>by rcases e with e|e|e<;>omega));have hk5:Kept (λj=>j=b) w5 (w5.setCell ⟨b,t,none⟩ (.int .u8 (v:Nat))):=(Kept.refl (λj=>j=b) w5).setCell ⟨b,t,none⟩ (.inl rfl) _;refine⟨j+1,_,x2,by omega,by go_num,?_,HBr5.o.set t v,hoc5.of hk5.size (hk5.block (b+1) hoc5.1 (by omega)),λu=> ?_,HF2.o⟩
      · obtain⟨k5,r2,hr2,i2⟩:=O5.o
        have hs5:=k5.size;have hr3:r2=r\/w1.heap.size<=r2:=by
         rcases hr2 with e|e
         · rcases HR1.o with e'|e'
           · exact .inl (e.trans e')
           · exact .inr (by omega)
         · exact .inr (by omega)
        exact⟨r2,(Kept.ch_trans HKK.o k5 HRW.o).trans hk5 (λ_ e=> .inr (by omega)),hr3,by rw[World.size_setCell];omega,i2.other hk5 (by omega) (by omega) (by rcases hr3 with e|e<;>omega) (Br.notT HBr5.o (by omega))⟩
      · split
        · omega
        · exact HF7.o u
     case measure=>simp[intOf];omega
  · obtain rfl:j=k:=by omega
    rw[Nat.sub_self] at hF;have hF':F=.ok (f,x'):=hF.symm;subst hF';have hn:=hbr.nums;have hkr:R=if kind f 19≠2 then .error 162 else .ok (f,x'):=by
     rw[<-HR.o,z00 HFx.o]
     split<;>rfl
    have HK2:=qH kk;have hKd:=z1j (some ⟨b,0,none⟩) 19 19 f wr (by unfold maxLen;omega) (λi=>by have:=hf7 i;omega) hn;have HKd:=qH (show Calls prog 259 #[.slice (some ⟨b,0,none⟩) 19 19] wr λe w'=>e=.returned (.int .u8 (kind f 19))/\Below wr.heap.size wr w' from hKd);obtain⟨z,hz⟩:∃z,kind f 19=z:=⟨_,rfl⟩
    rw[hz] at HKd hkr;have hz5:z<=5:=(by rw[<-hz];exact zbm f 19);by_cases h2:z=2
    · subst h2
      rw[if_neg (by decide)] at hkr;subst hkr;have hT:Tbl f 19:=.inr (.inr hz);have HT:=qH (λ(W:World) (hb:Below wr.heap.size wr W)=>z9T (some ⟨b,0,none⟩) 19 19 f W (λi=>by have:=HF7.o i;omega) (hn.below hb) hT);unfold zg0 at HT;have HKd':=qH (show Calls prog 259 #[.slice (some ⟨b,0,none⟩) 19 19] wr λe w'=>e=.returned (.int .u8 2)/\Below wr.heap.size wr w' from HKd.o);clear hF kk hr1 i1 hbr hoc hn hKd HKd hz hT hf7
      go_wp2_with (first
       |(go_at_call 259;(with_reducible refine HKd'.o.mono ?_);rintro e w5 ⟨rfl,b5⟩;have B5:=qH b5;clear b5)
       |(go_at_call 254;(with_reducible refine(HT.o _ B5.o).mono ?_);rintro e w6 ⟨p,rfl,hp,b6,t6⟩;obtain⟨B6,T6⟩:=qh2 b6 t6;clear b6 t6))
      go_ret;have i5:=HI1.o.below B5.o;have i6:=i5.below B6.o;refine⟨p,r1,rfl,?_,?_,i6,T6.o r1 i5.rlt⟩
      · exact(HK2.o.trans (Kept.of_below B5.o) (λ_ e=>e.elim)).trans (Kept.of_below B6.o) (λ_ e=>e.elim)
      · rcases HR1.o with e|e
        · exact .inl e
        · exact .inr (by omega)
    · rw[if_pos h2] at hkr
      subst hkr;have d0:((z:Int) !=2)=true:=(by rw[bne_iff_ne];omega);clear hF kk hr1 i1 hbr hoc hn hKd hz hf7
      go_wp2_with (first
       |(go_at_call 259;(with_reducible refine HKd.o.mono ?_);rintro e w5 ⟨rfl,b5⟩;have B5:=qH b5;clear b5)
       |(go_at_call 171;(with_reducible refine(z0O _).mono ?_);rintro e w4 ⟨rfl,k4⟩;have K4:=qH k4;clear k4))
      exact⟨rfl,rfl,(HK2.o.trans (Kept.of_below B5.o) (λ_ e=>e.elim)).trans K4.o (λ_ e=>e.elim)⟩
