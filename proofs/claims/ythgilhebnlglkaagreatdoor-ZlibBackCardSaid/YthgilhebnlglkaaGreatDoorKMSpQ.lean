import Derived.Test.YthgilhebnlglkaaGreatDoorKMBpE
import Derived.Test.YthgilhebnlglkaaGreatDoorKSpR
set_option linter.all false
set_option maxHeartbeats 0
set_option maxRecDepth 1000000
open Go.Proofs.Tryz
namespace Go.Proofs.YthgilhebnlglkaaGreatDoor
namespace V
open Go Go.RowKit M U
theorem ke(A:Option Addr)(n c:Nat)(L:List Tk)(s:ByteArray)(w:World)(h:IsTks w A n L)(hn:n<=30000)(hs:s.size<=70000):
 Calls prog 157 #[.slice A n c,.string s] w λe w'=>e=.returned (.int .i64 (mys L s:Nat))/\Below w.heap.size w w':=by
 have V:=qH h;have S:=h.leng;have HL:=qH S;have l:=qH (λ(w':World) (b:Below w.heap.size w w')=>Tx.size_any A n c L w' (h.below b) (by omega));have I:=Tx.szs_le L;have hz:Tx.szs L<=30000000:=(by omega);have d5:decide ((1048576:Int)<(s.size:Int))=false:=qF (by omega);have F:=qH (show(∀i,i<n->may (L.getD i default)=true)->mys L s=if Tx.szs L=s.size then 0 else 7 from λq=>by
  unfold mys;rw[A7];rw[CP];intro x hx;obtain⟨i,hi,rfl⟩:=Cm hx;have:=q i (by omega)
  rwa [List.getD,qE hi] at this)
 have J:=qH (show ∀i,i<n->may (L.getD i default)=false->mys L s=2 from λi hi q=>by
  unfold mys;rw[A0];rw[CP];intro g;have m:i<L.length:=(by omega);have:=g (L[i]'m) (AW _);rw[List.getD,qE m] at q;simp only[DA] at q;rw[this] at q;cases q)
 obtain⟨Z,O⟩:∃Z,Tx.szs L=Z:=⟨_,rfl⟩
 obtain⟨R,N⟩:∃R,mys L s=R:=⟨_,rfl⟩
 rw[O] at l F hz;rw[N] at F J ⊢;clear h S O I N hs;go_enter func157,ntmps157;go_wp2_with fail
 go_loopw [9] (λx wr=> ∃i:Nat,i<=n/\x=.int .i64 i/\(∀j,j<i->may (L.getD j default)=true)/\Below w.heap.size w wr) (λx _=>n - (intOf x).toNat)
 case atStart=>exact⟨0,qZ,rfl,λj Q=>absurd Q (by omega),Below.refl _ _⟩
 case round=>
  obtain⟨i,hi,rfl,B,y⟩:=hrel;obtain⟨p,G⟩:=qh2 y B;by_cases z:i<n
  · obtain⟨b,o,rfl,X,P⟩:=(V.o.below y).at (by omega)
    obtain⟨c0,c1,M⟩:=P i z;obtain⟨q,C⟩:∃q,may (L.getD i default)=q:=⟨_,rfl⟩
    have K:=qH C;generalize Y:L.getD i default=t at c0 c1 M C;obtain⟨tl,U,T⟩:=t;simp only at c0 c1 M;have H:=gN tl U T;rw[C] at H;have u:=qH H;have m:i<=100000:=(by omega);have r:=qH (p.o.alloc p.o.size (.cells #[.int .u8 tl,.int .i64 U,.int .i64 T] 139));clear H y P Y B C;cases q
    · go_wp2_with (go_at_call 194;refine(u.o _).mono ?_;rintro e w1 ⟨rfl,v⟩;have D:=qbt r v;clear v)
      go_ret;rw[J.o i z K.o];exact⟨rfl,D.o⟩
    · go_wp2_with (go_at_call 194;refine(u.o _).mono ?_;rintro e w1 ⟨rfl,v⟩;have D:=qbt r v;clear v)
      go_roundw
      case rel=>exact⟨i+1,by omega,by go_num,λj Q=>by
       by_cases e:j=i
       · rw[e];exact K.o
       · exact G.o j (by omega),D.o⟩
      case measure=>(simp[intOf];try omega)
  · obtain rfl:i=n:=by omega
    have a:=F.o B;by_cases d:Z=s.size
    · rw[A7 d] at a
      have k:=qH a;have W:((s.size:Int) !=(Z:Int))=false:=(by rw[Di];omega);clear y B a d;go_wp2_with (go_at_call 195;(with_reducible refine qcb p (l.o _ p.o) ?_);intro w2 E);go_ret;rw[k.o];exact⟨rfl,E.o⟩
    · rw[A0 d] at a
      have k:=qH a;have W:((s.size:Int) !=(Z:Int))=true:=(by rw[AQ];omega);clear y B a d;go_wp2_with (go_at_call 195;(with_reducible refine qcb p (l.o _ p.o) ?_);intro w2 E);go_ret;rw[k.o];exact⟨rfl,E.o⟩
theorem jq:(prog.info? 243).map (λi=>i.size)=some 2:=by kernel_rfl
structure Ch(w:World)(bl br:Nat)(A:Option Addr)(n c:Nat)(L:List Tk)(s:ByteArray):Prop where
 tabs:Tabs w
 toks:IsTks w A n L
 c1:w.cell? ⟨bl,0,none⟩=some (.slice A n c)
 c2:w.cell? ⟨br,0,none⟩=some (.string s)
theorem Ch.next{w w':World}{bl b:Nat}{A:Option Addr}{n c:Nat}{L:List Tk}{s:ByteArray}(h:Ch w bl b A n c L s)(a:Below w.heap.size w w'):Ch w' bl b A n c L s:=
 ⟨h.tabs.keep a,h.toks.below a,(a.cell (qB h.c1)).trans h.c1,(a.cell (qB h.c2)).trans h.c2⟩
theorem mQ(k bl j:Nat)(A:Option Addr)(n c:Nat)(L:List Tk)(s:ByteArray)(w:World)(H:Ch w bl j A n c L s)(x:k<=2)(E:n<=30000)(hs:s.size<=70000)(l:∀t∈L,may t=true)(d:SzC L):
 Calls prog 196 #[.int .u8 k,.pointer (some ⟨bl,0,none⟩),.pointer (some ⟨j,0,none⟩)] w λe w'=>e=.returned (.agg #[.int .u8 k,.int .i64 (b3 L s k:Nat)])/\Below w.heap.size w w':=by
 have a:=(Below.refl w.heap.size w).alloc qR (.cells #[.int .u8 0,.int .i64 0] 243);have q:=qH a;have b:=H.next a
 have i:=qH (show Calls prog 197 #[.int .u8 k,.slice A n c,.string s,.int .i64 0] (w.alloc (.cells #[.int .u8 0,.int .i64 0] 243)) λe w'=>e=.returned (.tuple #[.int .i64 ((b3 L s k:Nat):Int),.int .i64 0])/\Below (w.alloc (.cells #[.int .u8 0,.int .i64 0] 243)).heap.size (w.alloc (.cells #[.int .u8 0,.int .i64 0] 243)) w' from
  d k A n c s 0 _ b.tabs b.toks (by omega) (by omega) (by omega) x (λ_=>l))
 have c1:=b.c1;have y:=b.c2;generalize u:b3 L s k=Z at i ⊢;clear u b H a l d;go_enter func196,ntmps196;go_wp2_with (go_at_call 197;(with_reducible refine i.o.mono ?_);rintro e F ⟨rfl,h⟩;have g:=(Hb.new w 243 #[.int .u8 0,.int .i64 0]).next h;have r:=qH g;have C:=g.free 0;have D:=g.free 1;obtain⟨z,B⟩:=g.cells2;have m:=qbt q h;clear h g);exact bodyPost_ret (v:=.agg #[.int .u8 k,.int .i64 Z]) (results_cell_row rfl _ _ w.heap.size _ _ _ _ rfl (r.o.put2 _ _).row underlying243 rfl jq) rfl ⟨rfl,(m.o.setCell (p:=⟨w.heap.size,0,none⟩) qR _).setCell (p:=⟨w.heap.size,1,none⟩) qR _⟩
theorem r8(A:Option Addr)(n c:Nat)(L:List Tk)(s:ByteArray)(w:World)(H:Tabs w)(h:IsTks w A n L)(hn:n<=30000)(hs:s.size<=70000)(hm:∀t∈L,may t=true)(a2:SzC L):
 Calls prog 159 #[.slice A n c,.string s] w λe w'=>e=.returned (.agg #[.int .u8 ((kd L s).1:Nat),.int .i64 ((kd L s).2:Nat)])/\Below w.heap.size w w':=by
 have hl:=h.leng;have M:=(Below.refl w.heap.size w).alloc qR (.cells #[.slice A n c] 92);have N:=M.alloc M.size (.cells #[.string s] 9);have r:=N.alloc N.size (.cells #[.int .u8 0,.int .i64 0] 243);have b:=((Hb.new w 92 #[.slice A n c]).alloc (.cells #[.string s] 9)).alloc (.cells #[.int .u8 0,.int .i64 0] 243);have O:=(Hb.new (w.alloc (.cells #[.slice A n c] 92)) 9 #[.string s]).alloc (.cells #[.int .u8 0,.int .i64 0] 243);have d:=Hb.new ((w.alloc (.cells #[.slice A n c] 92)).alloc (.cells #[.string s] 9)) 243 #[.int .u8 0,.int .i64 0];simp only[World.size_alloc] at O d;have D:=qH (show Ch (((w.alloc (.cells #[.slice A n c] 92)).alloc (.cells #[.string s] 9)).alloc (.cells #[.int .u8 0,.int .i64 0] 243)) w.heap.size (w.heap.size+1) A n c L s from⟨H.keep r,h.below r,b.cell 0 rfl,O.cell 0 rfl⟩);obtain⟨K,R⟩:=qh2 d r;have Y:=qH (And.intro H h);have E:=qH (λ(k:Nat) (hk:k<=2) (g:World) (H1:Ch g w.heap.size (w.heap.size+1) A n c L s)=>mQ k w.heap.size (w.heap.size+1) A n c L s g H1 hk hn hs hm a2);have HB:=qH (λk=>(wy (k:=k) hs (by omega:L.length<=30000) hm));have HK:=qH (λj=>uG hs (by omega:L.length<=30000) hm j);have HE:=qH (GR L s);have HD:=qH (λj=>(show kds L s (j+1)=if b3 L s (j+1)<(kds L s j).2 then(j+1,b3 L s (j+1)) else kds L s j from rfl));clear M N r b O d H h hm hl a2;obtain⟨F,hF⟩:∃F,b3 L s=F:=⟨_,rfl⟩
 obtain⟨G,hG⟩:∃G,kds L s=G:=⟨_,rfl⟩
 have a0:G 0=(0,F 0):=(by rw[<-hG,<-hF];rfl);have a3:=qH a0;rw[<-HE.o];rw[hF] at E HB HD;rw[hG] at HK HD ⊢;have U:=qH (λ(g:World) (H1:Ch g w.heap.size (w.heap.size+1) A n c L s)=>(show Calls prog 196 #[.int .u8 0,.pointer (some ⟨w.heap.size,0,none⟩),.pointer (some ⟨w.heap.size+1,0,none⟩)] g λe w'=>e=.returned (.agg #[.int .u8 0,.int .i64 ((F 0:Nat):Int)])/\Below g.heap.size g w' from E.o 0 (by omega) g H1));clear hF hG HE a0;go_enter func159,ntmps159;go_wp2_with (go_at_call 196;(with_reducible refine(U.o _ D.o).mono ?_);rintro e g ⟨rfl,b1⟩;have C1:=qH (D.o.next b1);have K1:=qH (K.o.next b1);have B1:=qbt R b1;have z1:=b1.size;simp only[World.size_alloc] at z1;clear b1);have hx:=K.o.lt;simp only[World.size_alloc] at hx;obtain⟨X,hX⟩:∃X,g.heap.size=X:=⟨_,rfl⟩
 rw[hX] at z1;have q:=(Below.refl g.heap.size g).alloc qR (.cells #[.int .u8 0,.int .i64 (F 0:Nat)] 243);have S:=qH (C1.o.next q);have W:=qH (K1.o.next q);have V:=qH (hX▸Hb.new g 243 #[.int .u8 0,.int .i64 (F 0:Nat)]);have Q:=qbt B1 q;rw[hX];generalize g.alloc (.cells #[.int .u8 0,.int .i64 (F 0:Nat)] 243)=w2 at S W V Q ⊢;clear q hX C1 K1 B1 D K R U
 go_loopw [7] (λx wr=> ∃j:Nat,j<=2/\x=.int .u8 ((j+1:Nat):Int)/\Hb wr 243 X #[.int .u8 ((G j).1:Nat),.int .i64 ((G j).2:Nat)]/\Hb wr 243 (w.heap.size+2) #[.int .u8 0,.int .i64 0]/\Ch wr w.heap.size (w.heap.size+1) A n c L s/\Below w.heap.size w wr) (λx _=>3 - (intOf x).toNat)
 case atStart=>exact⟨0,by omega,rfl,by rw[a3.o];exact V.o,W.o,S.o,Q.o⟩
 case round=>
  obtain⟨j,hj,rfl,hg,hk,hc,hb⟩:=hrel;obtain⟨I,m,T,C⟩:=qh4 hg hk hc hb;have B:=HD.o j;generalize b:j+1=k at B ⊢;have a1:=HK.o j;obtain⟨g1,i⟩:∃g1,(G j).1=g1:=⟨_,rfl⟩
  obtain⟨g2,a⟩:∃g2,(G j).2=g2:=⟨_,rfl⟩
  rw[i,a] at a1 I;rw[a] at B;clear hg hk hc hb;by_cases d:k<3
  · have d1:decide ((k:Int)<=2)=true:=q9T (by omega)
    have a6:decide (k<=2)=true:=q9T (by omega);have a5:=HB.o k;have HS:=qH (E.o k (by omega) _ T.o);generalize hf:F k=f at a5 B HS;have e8:IntKind.u8.wrap ((k:Int)+1)=((k+1:Nat):Int):=(by rcases(by omega:k=0\/k=1\/k=2) with rfl|rfl|rfl<;>rfl);have Z:=qH (λ(w3:World) (b3:Below wr.heap.size wr w3)=>(show Hb w3 243 X #[.int .u8 g1,.int .i64 g2]/\Hb w3 243 (w.heap.size+2) #[.int .u8 0,.int .i64 0]/\Ch w3 w.heap.size (w.heap.size+1) A n c L s/\Below w.heap.size w w3 from⟨I.o.next b3,m.o.next b3,T.o.next b3,C.o.trans (b3.mono C.o.size)⟩));by_cases l:f<g2
    · have a4:decide (f<g2)=true:=q9T l
      have HR:=qH (show G k=(k,f) by rw[B];exact A7 l);have J:=qH (show j+1=k/\k<=2 from⟨b,by omega⟩);clear B l b d i a hf hj
      go_wp2_with (go_at_call 196;(with_reducible refine HS.o.mono ?_);rintro e w2 ⟨rfl,z⟩
       <;>(have b3:=z.alloc z.size (.cells #[.int .u8 k,.int .i64 f] 243);obtain⟨u,q2,q3,q4⟩:=Z.o _ b3;obtain⟨e0,e1⟩:=u.cells2;have f0:=u.free 0;have f1:=u.free 1;obtain⟨Q1,Q2,Q3,Q4,Z2⟩:=qh5 u q2 q3 q4 z.size;clear u q2 q3 q4 z b3))
      go_roundw
      case rel=>
       have P:=((Kept.refl (One X) (w2.alloc (.cells #[.int .u8 k,.int .i64 f] 243))).setCell ⟨X,0,none⟩ (.inl rfl) (.int .u8 k)).setCell ⟨X,1,none⟩ (.inl rfl) (.int .i64 f);have b9:=(Q4.o.setCell (p:=⟨X,0,none⟩) (by show w.heap.size<=X;omega) (.int .u8 k)).setCell (p:=⟨X,1,none⟩) (by show w.heap.size<=X;omega) (.int .i64 f);refine⟨k,J.o.2,by go_num,by rw[HR.o];exact Q1.o.put2 _ _,Q2.o.kept P (λe=>by have:w.heap.size+2=X:=e;omega),⟨Y.o.1.keep b9,Y.o.2.below b9,P.cell Q3.o.c1 (λe=>by have:w.heap.size=X:=e;omega),P.cell Q3.o.c2 (λe=>by have:w.heap.size+1=X:=e;omega)⟩,b9⟩
      case measure=>(have:=J.o;simp[intOf];try omega)
    · have a4:decide (f<g2)=false:=qF l
      have HR:=qH (show G k=G j by rw[B];exact A0 l);have J:=qH (show j+1=k/\k<=2/\(G j).1=g1/\(G j).2=g2 from⟨b,by omega,i,a⟩);clear B l b d i a hf hj
      go_wp2_with (go_at_call 196;(with_reducible refine HS.o.mono ?_);rintro e w2 ⟨rfl,z⟩
       <;>(have b3:=z.alloc z.size (.cells #[.int .u8 k,.int .i64 f] 243);obtain⟨u,q2,q3,q4⟩:=Z.o _ b3;obtain⟨e0,e1⟩:=u.cells2;obtain⟨Q1,Q2,Q3,Q4⟩:=qh4 u q2 q3 q4;clear u q2 q3 q4 z b3))
      go_roundw
      case rel=>exact⟨k,J.o.2.1,by go_num,by rw[HR.o,J.o.2.2.1,J.o.2.2.2];exact Q1.o,Q2.o,Q3.o,Q4.o⟩
      case measure=>(have:=J.o;simp[intOf];try omega)
  · obtain rfl:j=2:=by omega
    have d1:decide ((k:Int)<=2)=false:=qF (by omega);obtain⟨e0,e1⟩:=I.o.cells2;obtain⟨e2,e3⟩:=m.o.cells2;have f0:=m.o.free 0;have f1:=m.o.free 1;have y:=qH (And.intro i a);clear B a1 i a d hj;go_wp2_with fail;refine bodyPost_ret (v:=.agg #[.int .u8 g1,.int .i64 g2]) (results_cell_row rfl _ _ (w.heap.size+2) _ _ _ _ rfl (m.o.put2 _ _).row underlying243 rfl jq) rfl ⟨by rw[y.o.1,y.o.2],(C.o.setCell (p:=⟨w.heap.size+2,0,none⟩) (by show w.heap.size<=w.heap.size+2;omega) _).setCell (p:=⟨w.heap.size+2,1,none⟩) (by show w.heap.size<=w.heap.size+2;omega) _⟩
theorem vM(a b:Int)(w:World):(Instr.field 243 (.agg #[.int .u8 a,.int .i64 b]) 0).run prog w=.ok (.int .u8 a) w:=by kernel_rfl
noncomputable def kq(L:List Tk)(s:ByteArray)(a b x y:Nat):Nat×Nat:=kd (seg L a b) (s.extract x y)
structure Gv(W:World)(A:Option Addr)(n c:Nat)(L:List Tk)(s:ByteArray):Prop where
 tabs:Tabs W
 toks:IsTks W A n L
 nc:n<=c
 hn:n<=30000
 hs:s.size<=70000
 may:∀t∈L,may t=true
 z:Tx.szs L=s.size
 sz:∀f t,SzC (seg L f t)
structure Cs(W:World)(lb sb mb tb m:Nat)(A:Option Addr)(n c:Nat)(L:List Tk)(s:ByteArray)(N:Nat)(w:World):Prop where
 cl:w.cell? ⟨lb,0,none⟩=some (.slice A n c)
 cs:w.cell? ⟨sb,0,none⟩=some (.string s)
 cp:w.cell? ⟨mb,0,none⟩=some (.map (some m))
 ct:w.cell? ⟨tb,0,none⟩=some (.func (.func 158) #[] #[.pointer (some ⟨mb,0,none⟩),.pointer (some ⟨lb,0,none⟩),.pointer (some ⟨sb,0,none⟩)])
 mem:Mem w m N (kq L s)
 nl:lb≠m
 ns:sb≠m
 np:mb≠m
 nt:tb≠m
 bm:W.heap.size<=m
 b:Below W.heap.size W w
section
variable {W w w':World} {lb sb mb tb m:Nat} {A:Option Addr} {n c:Nat} {L:List Tk} {s:ByteArray} {N N':Nat}
theorem Cs.step(h:Cs W lb sb mb tb m A n c L s N w)(a:Kept (One m) w w')(e:Mem w' m N' (kq L s)):Cs W lb sb mb tb m A n c L s N' w':=
 ⟨a.cell h.cl h.nl,a.cell h.cs h.ns,a.cell h.cp h.np,a.cell h.ct h.nt,e,h.nl,h.ns,h.np,h.nt,h.bm,h.b.trans (a.below h.b.size (λj d=>by have:j=m:=d;have:=h.bm;omega))⟩
theorem Cs.next(h:Cs W lb sb mb tb m A n c L s N w)(a:Below w.heap.size w w'):Cs W lb sb mb tb m A n c L s N w':=
 h.step ((Kept.of_below a).none _) (h.mem.of (a.block m h.mem.lt))
theorem Gv.sub(G:Gv W A n c L s){f t:Nat}(hf:f<=t)(b:t<=n):szt L f<=szt L t/\szt L t<=s.size:=by
 have a:=szt_mono L b;rw[szt_all (n:=n) (by rw[G.toks.leng];exact qR),G.z] at a;exact⟨szt_mono L hf,a⟩
theorem xa(G:Gv W A n c L s){f t:Nat}(hf:f<=t)(ht:t<=n)(hN:N<=1000000)(C:Cs W lb sb mb tb m A n c L s N w):
 Calls prog 158 #[.agg #[.int .i64 f,.int .i64 t,.int .i64 (szt L f:Nat),.int .i64 (szt L t:Nat)],.pointer (some ⟨mb,0,none⟩),.pointer (some ⟨lb,0,none⟩),.pointer (some ⟨sb,0,none⟩)] w λe w'=>
  e=.returned (.agg #[.int .u8 ((kp L s f t).1:Nat),.int .i64 ((kp L s f t).2:Nat)])/\∃N',N'<=N+1/\Cs W lb sb mb tb m A n c L s N' w'/\Kept (One m) w w':=by
 obtain⟨ag,ah⟩:=G.sub hf ht;have al:=G.hs;have ak:=G.hn;have af:=G.nc;have a6:kq L s f t (szt L f) (szt L t)=kp L s f t:=rfl;have U:=(Below.refl w.heap.size w).alloc qR (.cells #[.int .i64 f,.int .i64 t,.int .i64 (szt L f:Nat),.int .i64 (szt L t:Nat)] 241);have F:=U.alloc U.size (.cells #[.int .u8 0,.int .i64 0] 243);have C2:=C.next F
 have hlk:=C2.mem.look (a:=f) (b:=t) (c:=szt L f) (d:=szt L t) (by omega) (by omega) (by omega) (by omega);have k1:=(Hb.new w 241 #[.int .i64 f,.int .i64 t,.int .i64 (szt L f:Nat),.int .i64 (szt L t:Nat)]).alloc (.cells #[.int .u8 0,.int .i64 0] 243);have k2:=Hb.new (w.alloc (.cells #[.int .i64 f,.int .i64 t,.int .i64 (szt L f:Nat),.int .i64 (szt L t:Nat)] 241)) 243 #[.int .u8 0,.int .i64 0];simp only[World.size_alloc] at k2;unfold wK chv at hlk;rw[a6] at hlk
 have g:=qH (λ(X:Option Addr) (hX:(if c=f then A else Option.map (λx=>x.add (f*3)) A)=X) (w':World) (b:Below W.heap.size W w') (cx:Nat)=>(show Calls prog 159 #[.slice X (t - f:Nat) cx,.string (s.extract (szt L f) (szt L t))] w' (λe w2=>e=.returned (.agg #[.int .u8 ((kp L s f t).1:Nat),.int .i64 ((kp L s f t).2:Nat)])/\Below w'.heap.size w' w2) from
  r8 X (t - f) cx (seg L f t) _ w' (G.tabs.keep b) (hX▸(G.toks.below b).sub af hf ht) (by omega) (by rw[Ae];omega) (λx hx=>G.may x (seg_mem hx)) (G.sz f t)))
 have ac:(kp L s f t).2<=20000000:=JN (by rw[Ae];omega) (by rw[seg_length (by rw[G.toks.leng];exact ht)];omega) (λx hx=>G.may x (seg_mem hx));have ad:(kp L s f t).1<=2:=kd_kind _ _
 have j:=qH (λ(w':World) (h:Mem w' m N (kq L s))=>(show ∃w2,(Instr.mapUpdate 239 (.map (some m)) (.agg #[.int .i64 f,.int .i64 t,.int .i64 (szt L f:Nat),.int .i64 (szt L t:Nat)]) (.agg #[.int .u8 ((kp L s f t).1:Nat),.int .i64 ((kp L s f t).2:Nat)])).run prog w'=.ok () w2/\Mem w2 m (N+1) (kq L s)/\w'.grownBy w2 (some m) from
  h.put (a:=f) (b:=t) (c:=szt L f) (d:=szt L t) (by omega) (by omega) (by omega) (by omega) (by unfold maxLen;omega)))
 obtain⟨x,hx⟩:∃x,szt L f=x:=⟨_,rfl⟩
 obtain⟨y,hy⟩:∃y,szt L t=y:=⟨_,rfl⟩
 obtain⟨q1,Z⟩:∃q1,(kp L s f t).1=q1:=⟨_,rfl⟩
 obtain⟨q2,a0⟩:∃q2,(kp L s f t).2=q2:=⟨_,rfl⟩
 rw[hx,hy] at ag hlk g j k1 k2 C2 F ⊢;rw[hy] at ah;rw[Z,a0] at g j hlk ⊢;rw[Z] at ad;rw[a0] at ac;obtain⟨c1,c2,c3,c4⟩:=(show _/\_/\_/\_ from⟨C2.cl,C2.cs,C2.cp,C2.ct⟩)
 obtain⟨HC,a1,I,i,l⟩:=qh5 C C2 F k1 k2;clear U k1 k2 C2 F a6 C G hx hy Z a0;have k3:=Hb.new (w.alloc (.cells #[.int .i64 f,.int .i64 t,.int .i64 x,.int .i64 y] 241)) 243 #[.int .u8 q1,.int .i64 q2];simp only[World.size_alloc] at k3;have K3:=qH k3;clear k3;rcases hlk with hlk|hlk
 · have HE:=qH (show ∀w',Below w.heap.size w w'->∃N',N'<=N+1/\Cs W lb sb mb tb m A n c L s N' w'/\Kept (One m) w w' from λw' b=>⟨N,Cw _,HC.o.next b,(Kept.of_below b).none _⟩)
   go_enter func158,ntmps158;go_wp2_with fail;refine bodyPost_ret (v:=.agg #[.int .u8 q1,.int .i64 q2]) (results_cell_row rfl _ _ (w.heap.size+1) _ _ _ _ rfl (K3.o.alloc (.cells #[.int .u8 q1,.int .i64 q2] 243)).row underlying243 rfl jq) rfl ⟨rfl,HE.o _ ((((Below.refl w.heap.size w).alloc qR _).alloc (by simp) _).alloc (by simp;omega) _)⟩
 · go_enter func158,ntmps158
   go_upto_region 3 with fail
   have u:=(Below.refl ((w.alloc (.cells #[.int .i64 f,.int .i64 t,.int .i64 x,.int .i64 y] 241)).alloc (.cells #[.int .u8 0,.int .i64 0] 243)).heap.size ((w.alloc (.cells #[.int .i64 f,.int .i64 t,.int .i64 x,.int .i64 y] 241)).alloc (.cells #[.int .u8 0,.int .i64 0] 243))).alloc qR (.cells #[.int .u8 0,.int .i64 0] 243);have g0:=Hb.new ((w.alloc (.cells #[.int .i64 f,.int .i64 t,.int .i64 x,.int .i64 y] 241)).alloc (.cells #[.int .u8 0,.int .i64 0] 243)) 243 #[.int .u8 0,.int .i64 0];simp only[World.size_alloc] at g0;have z:=a1.o.next u
   have H:=i.o.next u
   have Y:=l.o.next u
   have V:=I.o.trans (u.mono I.o.size);clear u a1 i l I c1 c2 c3 c4 hlk;generalize ((w.alloc (.cells #[.int .i64 f,.int .i64 t,.int .i64 x,.int .i64 y] 241)).alloc (.cells #[.int .u8 0,.int .i64 0] 243)).alloc (.cells #[.int .u8 0,.int .i64 0] 243)=w3 at z H Y V g0 ⊢;obtain⟨p0,p1,p2,p3⟩:=H.cells4;have cl:=z.cl;have cs:=z.cs;have ll:=qB cl;have ls:=qB cs;obtain⟨K,i,l,a2,J⟩:=qh5 z H Y g0 V;obtain⟨X,hX⟩:∃X,(if c=f then A else Option.map (λx=>x.add (f*3)) A)=X:=⟨_,rfl⟩
   have M:=qH (g.o X hX);generalize ai:s.extract x y=TX at M;have am:t<=c:=(by omega);have nl:lb≠w.heap.size+1+1:=λe=>by have h9:=qB HC.o.cl;have ab:lb<w.heap.size:=h9;omega
   have ns:sb≠w.heap.size+1+1:=λe=>by have h9:=qB HC.o.cs;have ab:sb<w.heap.size:=h9;omega
   clear z H Y V g0 g;have a4:=And.intro cl (And.intro cs (And.intro p0 (And.intro p1 (And.intro p2 p3))))
   go_region_held3 (λw':World=>w'.cell? ⟨lb,0,none⟩=some (.slice A n c)/\w'.cell? ⟨sb,0,none⟩=some (.string s)/\w'.cell? ⟨w.heap.size,0,none⟩=some (.int .i64 f)/\w'.cell? ⟨w.heap.size,1,none⟩=some (.int .i64 t)/\w'.cell? ⟨w.heap.size,2,none⟩=some (.int .i64 x)/\w'.cell? ⟨w.heap.size,3,none⟩=some (.int .i64 y)) (first|exact a4|exact l3|exact l4)
    (first|(go_at_call 159;(with_reducible refine(M.o _ (by first|exact K.o.b|exact K.o.b.drew) _).mono ?_);rintro e w4 ⟨rfl,Q⟩;have P:Below w3.heap.size w3 w4:=(by first|exact Q|exact(Below.refl _ w3).drew.trans Q);clear Q;have l3:=And.intro ((P.cell (p:=⟨lb,0,none⟩) ll).trans cl) (And.intro ((P.cell (p:=⟨sb,0,none⟩) ls).trans cs) (i.o.next P).cells4);have g4:=a2.o.next P;obtain⟨e0,e1⟩:=g4.cells2;have f0:=g4.free 0;have f1:=g4.free 1;have G4:=qH (g4.put2 (.int .u8 q1) (.int .i64 q2));have B:=((Kept.refl (One (w.heap.size+1+1)) w4).setCell ⟨w.heap.size+1+1,0,none⟩ (.inl rfl) (.int .u8 q1)).setCell ⟨w.heap.size+1+1,1,none⟩ (.inl rfl) (.int .i64 q2);have l4:=And.intro (B.cell l3.1 nl) (And.intro (B.cell l3.2.1 ns) ((i.o.next P).kept B (λe=>by have:w.heap.size=w.heap.size+1+1:=e;omega)).cells4);obtain⟨O,B4⟩:=qh2 B P;clear B g4 P))
   rename_i S
   have D:=((J.o.trans (B4.o.mono J.o.size)).setCell (p:=⟨w.heap.size+1+1,0,none⟩) (by show w.heap.size<=w.heap.size+1+1;omega) (.int .u8 q1)).setCell (p:=⟨w.heap.size+1+1,1,none⟩) (by show w.heap.size<=w.heap.size+1+1;omega) (.int .i64 q2);have q:=G4.o;have T:=(i.o.next B4.o).kept O.o (λe=>by have:w.heap.size=w.heap.size+1+1:=e;omega);have E:=(l.o.next B4.o).kept O.o (λe=>by have:w.heap.size+1=w.heap.size+1+1:=e;omega);clear S l3 l4 e0 e1 f0 f1 G4 O B4 a4 p0 p1 p2 p3 cl cs i l a2 J M K;generalize (w4.setCell ⟨w.heap.size+1+1,0,none⟩ (.int .u8 q1)).setCell ⟨w.heap.size+1+1,1,none⟩ (.int .i64 q2)=w5 at D q T E ⊢;have R:=HC.o.next D
   have cp:=R.cp;obtain⟨p0,p1,p2,p3⟩:=T.cells4;obtain⟨e0,e1⟩:=q.cells2;obtain⟨w6,hr,a7,g6⟩:=j.o w5 R.mem;have aj:=HC.o.mem.lt;have a3:=q.of (w':=w6) (g6.block _ q.lt (λe=>by injection e with e;omega));have r:=E.of (w':=w6) (g6.block _ E.lt (λe=>by injection e with e;omega));obtain⟨s0,s1⟩:=a3.cells2;obtain⟨s2,s3⟩:=r.cells2;have f2:=r.free 0;have f3:=r.free 1;obtain⟨aa,a9⟩:=qh2 r a7;have a8:=qH (((Kept.of_below D).none (One m)).grown g6 (λk e=> .inl (by cases e;rfl)));clear D q T E R a7 g6 a3 r j;go_wp2_with fail;have ae:Mem ((w6.setCell ⟨w.heap.size+1,0,none⟩ (.int .u8 q1)).setCell ⟨w.heap.size+1,1,none⟩ (.int .i64 q2)) m (N+1) (kq L s):=a9.o.of ((Below.heap_setCell _ _ _ _ (by show m≠w.heap.size+1;omega)).trans (Below.heap_setCell _ _ _ _ (by show m≠w.heap.size+1;omega)));have a5:=(a8.o.setCell ⟨w.heap.size+1,0,none⟩ (.inr (by show w.heap.size<=w.heap.size+1;omega)) (.int .u8 q1)).setCell ⟨w.heap.size+1,1,none⟩ (.inr (by show w.heap.size<=w.heap.size+1;omega)) (.int .i64 q2);refine bodyPost_ret (v:=.agg #[.int .u8 q1,.int .i64 q2]) (results_cell_row rfl _ _ (w.heap.size+1) _ _ _ _ rfl (aa.o.put2 _ _).row underlying243 rfl jq) rfl ⟨rfl,N+1,qR,HC.o.step a5 ae,a5⟩
end
section
variable {W w w':World} {lb sb mb tb m:Nat} {A:Option Addr} {n c:Nat} {L:List Tk} {s:ByteArray} {N N':Nat}
def JnC(A:Option Addr)(n c:Nat)(L:List Tk)(s:ByteArray)(W:World):Prop:=∀ (lb sb mb tb m B N:Nat) (v:Value) (w:World),cM B w v (rO L n (cnk n+1))->m<B->N<=100000->Cs W lb sb mb tb m A n c L s N w->
 Calls prog 161 #[v,.func (.func 160) #[] #[.pointer (some ⟨tb,0,none⟩)]] w λe w'=>
  ∃v',e=.returned v'/\cM w.heap.size w' v' ((pts L s).map (Eb L))/\∃N',N'<=N+3*cnk n/\Cs W lb sb mb tb m A n c L s N' w'/\Kept (One m) w w'
end
end V
namespace V
open Go Go.RowKit M U
open Go.ChangeShapes Go.WideShapes Go.Deep
theorem joined_few(A:Option Addr)(n c:Nat)(L:List Tk)(s:ByteArray)(W:World)(E:L.length=n)(hn:n<=1024)(V:szt L n<=70000):JnC A n c L s W:=λlb sb mb tb m B N v w a hB hN C=>by
 have h:cnk n=0:=(by unfold cnk;omega);have r:cut n 1=n:=(by unfold cut;omega);have z:rO L n (cnk n+1)=[⟨0,n,0,szt L n⟩]:=by
  rw[h];show[Eb L (cut n 0,cut n 1)]=_
  rw[r,dF];rfl
 have D:(pts L s).map (Eb L)=[⟨0,n,0,szt L n⟩]:=(by rw[tD L s (by omega),E];rfl);rw[z] at a;rw[D,h];generalize S:szt L n=Z at a V ⊢;obtain⟨g,c1,rfl,p⟩:=a.form (by simp);have a:cM B w (.slice (some ⟨g,0,none⟩) 1 c1) [⟨0,n,0,Z⟩]:=a;have p:1<=c1:=p;obtain⟨H,I,J,K⟩:=a.cell (i:=0) (q:=⟨0,n,0,Z⟩) rfl rfl;simp only[BU,Aa] at H I J K;have T:=(a.lt g rfl).2;have u:=qH C;have U:=C.mem.lt;obtain⟨X,R⟩:∃X,(if c1=1 then some (⟨g,0,none⟩:Addr) else some ⟨g,4,none⟩)=X:=⟨_,rfl⟩
 clear a C z D h r E S;go_enter func161,ntmps161;go_wp2_with fail;have d:=(Below.refl w.heap.size w).alloc qR (.cells #[.int .i64 0,.int .i64 n,.int .i64 0,.int .i64 Z] 241);have j:=qH (u.o.next d);have l:=qH ((Kept.of_below d).none (One m));have b:=qH (Hb.new w 241 #[.int .i64 0,.int .i64 n,.int .i64 0,.int .i64 Z]);generalize w.alloc (.cells #[.int .i64 0,.int .i64 n,.int .i64 0,.int .i64 Z] 241)=w1 at j l b ⊢;clear d R H I J K
 go_loopw [5,17] (λv i wr=>v=.slice none 0 0/\i=.int .i64 0/\wr=w1) (λ_ _ _=>0)
 case atStart=>exact⟨rfl,rfl,rfl⟩
 case round=>
  obtain⟨rfl,rfl,rfl⟩:=hrel;obtain⟨h0,h1,h3,h4⟩:=b.o.cells4;have Q:=b.o.lt;go_wp2_with (at_builtin;refine fa rfl (.tmp 37) (.tmp 39) rfl (w.heap.size+1) _ [] rfl (cM.nil _ _) wr.heap.size 1 ⟨0,n,0,Z⟩ rfl ⟨by simp,by simp,by simp,by simp⟩ (by simp) (by simp;omega) ?_;intro v7 w7 G y Y x;obtain⟨P,O,M⟩:=qh3 G y x;clear G y x Y);go_ret;refine⟨_,rfl,P.o.low (Cw _),N,CD _ _,?_⟩;have F:Kept (One m) w w7:=(l.o.alloc _).grown O.o (λk e=>by cases e);exact⟨u.o.step F ((j.o.next ((Below.refl wr.heap.size wr).alloc qR _)).mem.of (M.o.block m (by omega))),F⟩
theorem Owp.low{B d:Nat}{w:World}{v:Value}{L:List Pv}(h:Owp B w v L)(f:d<=B):Owp d w v L:=by
 obtain⟨e,i⟩:=h;refine⟨e,?_⟩;rcases i with⟨a,b⟩|⟨g,c,cs,a,b,r⟩
 · exact .inl ⟨a,b⟩
 · exact .inr ⟨g,c,cs,a,qK f b,r⟩
theorem Chn.mem:∀ {l:List (Nat×Nat)} {a b:Nat} {q:Nat×Nat},Chn a l b->q∈l->q.1<=q.2/\q.2<=b
 |[],_,_,_,_,h=>absurd h (by simp)
 |p::l,a,b,q,hc,h=>by
  rcases Ab.1 h with rfl|h
  · exact⟨by rw[hc.1];exact hc.2.1,Chn.le hc.2.2⟩
  · exact Chn.mem hc.2.2 h
theorem FI{d:Array Oper}{o:Oper}{a:Act}{w:World}{K:Act->World->Prop}{Q:Exit->Act->World->Prop}{E:Prop}(g:o.guard=none)(s x:Operand)
 (G:o.op=.call {callee:=.builtin .append,args:= #[s,x],argTypes:= #[99,99]}) (B:Nat) (v:Value) (L:List Pv) (hs:a.eval s=v) (h:Owp B w v L) (b c:Nat) (q:Pv)
 (I:a.eval x=.slice (some ⟨b,0,none⟩) 1 c) (D:w.cell? ⟨b,0,none⟩=some (.int .i64 q.f)/\w.cell? ⟨b,1,none⟩=some (.int .i64 q.t)/\w.cell? ⟨b,2,none⟩=some (.int .i64 q.z)/\w.cell? ⟨b,3,none⟩=some (.int .u8 q.k)) (O:L.length<=1000000) (j:B<=w.heap.size)
 (C:∀e w',Owp B w' e (L++[q])->w.grownBy w' v.ownBlock->Below B w w'->K (a.put o.dst e) w'):if Region.wanted o (yielded d a.tmps)=true then Oper.wp prog o a w K Q else E:=by
 have H:Region.wanted o (yielded d a.tmps)=true:=(by simp[Region.wanted,g]);rw[A7 H];obtain⟨i,p,r,u,y⟩:=info_of xU
 obtain⟨e,w',J,M,l,_⟩:=run_append_own (P:= prog) w B 99 o.type 102 i _ 4 32 underlying99 p r u y rfl (by decide) v L.length (clp L) h ⟨b,0,none⟩ 1 c (clp [q]) rfl
  (yF D) (vI _) (by unfold maxLen;omega) (by omega) j
 unfold Oper.wp execOp;simp only[G,resolve,invoke,builtin,Sem.run_bind,Sem.run_pure,Result.andThen_ok,AV,Al,Av,hs,I,J];refine C e w' ?_ l ((Below.refl _ w).grown l j (λk F=>(World.ownsRow.lt h k F).1));unfold Owp;rw[qA,iq];exact M
theorem xT(A:Option Addr)(n c:Nat)(L:List Tk)(s:ByteArray)(w:World)(H:Tabs w)(h:IsTks w A n L)(ag:n<=c)(hn:n<=30000)(hs:s.size<=70000)(hm:∀t∈L,may t=true)(hz:Tx.szs L=s.size)(ad:∀f t,SzC (seg L f t))(hJ:JnC A n c L s w):
 Calls prog 112 #[.slice A n c,.string s] w λe w'=> ∃v,e=.returned (.tuple #[v,.int .i64 0])/\Owp w.heap.size w' v (pvs L s (pts L s))/\Below w.heap.size w w':=by
 have hG:Gv w A n c L s:=⟨H,h,ag,hn,hs,hm,hz,ad⟩;have HG:=qH hG;have hl:=h.leng;have S:=(Below.refl w.heap.size w).alloc qR (.cells #[.slice A n c] 92);have T:=S.alloc S.size (.cells #[.string s] 9);have a:=(Hb.new w 92 #[.slice A n c]).alloc (.cells #[.string s] 9);have l:=Hb.new (w.alloc (.cells #[.slice A n c] 92)) 9 #[.string s];simp only[World.size_alloc] at l;have HK:=qH (And.intro a l);have HB:=qH T
 have HR:=qH (show Calls prog 157 #[.slice A n c,.string s] ((w.alloc (.cells #[.slice A n c] 92)).alloc (.cells #[.string s] 9)) λe w'=>e=.returned (.int .i64 0)/\Below ((w.alloc (.cells #[.slice A n c] 92)).alloc (.cells #[.string s] 9)).heap.size ((w.alloc (.cells #[.slice A n c] 92)).alloc (.cells #[.string s] 9)) w' from by
  have:=ke A n c L s ((w.alloc (.cells #[.slice A n c] 92)).alloc (.cells #[.string s] 9)) (h.below T) hn hs;rw[yg.2 ⟨hm,hz⟩] at this;exact this)
 have a4:=qH (λ(r:World) (b:Below w.heap.size w r)=>vy A n c L r (h.below b) ag hn);have a6:=qH (λ(lb sb mb tb m B N:Nat) (v:Value) (r:World) (G:cM B r v (rO L n (cnk n+1))) (hB:m<B) (hN:N<=100000) (C:Cs w lb sb mb tb m A n c L s N r)=>hJ lb sb mb tb m B N v r G hB hN C);have V:=pts_chn L s;have ay:(pts L s).length<=100:=by
  have h:=dO (kp L s) (cut L.length) (cnk L.length);have h2:(pts L s).length<=cnk L.length+1:=h;unfold cnk at h2;omega
 have aH:cnk n<=29:=(by unfold cnk;omega);rw[hl] at V;have a7:=qH (λ(q:Nat×Nat) (hq:q∈pts L s)=>V.mem hq);generalize hP:pts L s=P at a6 a7 ay ⊢;clear V hP;have ax:= @run_makeMap prog;clear S T a l H h hm hz hG hJ ad;go_enter func112,ntmps112
 go_upto_region 8 with(go_at_call 157;(with_reducible refine HR.o.mono ?_);rintro e r ⟨rfl,b1⟩;have a:=HK.o.1.next b1;have l:=HK.o.2.next b1;have q1:=a.cell1;have q2:=l.cell1;obtain⟨K1,K2⟩:=qh2 a l;have B1:=qbt HB b1;clear b1 a l)
 obtain⟨m,D⟩:∃m,r.heap.size=m:=⟨_,rfl⟩
 have u:=((K1.o.alloc (.map #[] 0)).alloc (.cells #[.map (some m)] 239)).alloc (.cells #[.func (.func 158) #[] #[.pointer (some ⟨m+1,0,none⟩),.pointer (some ⟨w.heap.size,0,none⟩),.pointer (some ⟨w.heap.size+1,0,none⟩)]] 246);have k2:=((K2.o.alloc (.map #[] 0)).alloc (.cells #[.map (some m)] 239)).alloc (.cells #[.func (.func 158) #[] #[.pointer (some ⟨m+1,0,none⟩),.pointer (some ⟨w.heap.size,0,none⟩),.pointer (some ⟨w.heap.size+1,0,none⟩)]] 246);have k3:=(Hb.new (r.alloc (.map #[] 0)) 239 #[.map (some m)]).alloc (.cells #[.func (.func 158) #[] #[.pointer (some ⟨m+1,0,none⟩),.pointer (some ⟨w.heap.size,0,none⟩),.pointer (some ⟨w.heap.size+1,0,none⟩)]] 246);have k4:=Hb.new ((r.alloc (.map #[] 0)).alloc (.cells #[.map (some m)] 239)) 246 #[.func (.func 158) #[] #[.pointer (some ⟨m+1,0,none⟩),.pointer (some ⟨w.heap.size,0,none⟩),.pointer (some ⟨w.heap.size+1,0,none⟩)]];have b4:=((B1.o.alloc B1.o.size (.map #[] 0)).alloc (by have:=B1.o.size;simp;omega) (.cells #[.map (some m)] 239)).alloc (by have:=B1.o.size;simp;omega) (.cells #[.func (.func 158) #[] #[.pointer (some ⟨m+1,0,none⟩),.pointer (some ⟨w.heap.size,0,none⟩),.pointer (some ⟨w.heap.size+1,0,none⟩)]] 246);have m4:=(Mem.made r (kq L s)).of (w':=((r.alloc (.map #[] 0)).alloc (.cells #[.map (some m)] 239)).alloc (.cells #[.func (.func 158) #[] #[.pointer (some ⟨m+1,0,none⟩),.pointer (some ⟨w.heap.size,0,none⟩),.pointer (some ⟨w.heap.size+1,0,none⟩)]] 246)) ((Below.heap_alloc _ _ _ (by simp;omega)).trans (Below.heap_alloc _ _ _ (by simp)));have aB:=K1.o.lt;have aC:=K2.o.lt;have aD:(((r.alloc (.map #[] 0)).alloc (.cells #[.map (some m)] 239)).alloc (.cells #[.func (.func 158) #[] #[.pointer (some ⟨m+1,0,none⟩),.pointer (some ⟨w.heap.size,0,none⟩),.pointer (some ⟨w.heap.size+1,0,none⟩)]] 246)).heap.size=m+1+1+1:=(by simp[D]);simp only[World.size_alloc,D] at k3 k4 m4 aB aC;rw[D];generalize ((r.alloc (.map #[] 0)).alloc (.cells #[.map (some m)] 239)).alloc (.cells #[.func (.func 158) #[] #[.pointer (some ⟨m+1,0,none⟩),.pointer (some ⟨w.heap.size,0,none⟩),.pointer (some ⟨w.heap.size+1,0,none⟩)]] 246)=w4 at u k2 k3 k4 b4 m4 aD ⊢;have cl:=u.cell1;have C4:=qH (show Cs w w.heap.size (w.heap.size+1) (m+1) (m+1+1) m A n c L s 0 w4 from⟨u.cell1,k2.cell1,k3.cell1,k4.cell1,m4,by omega,by omega,by omega,by omega,by omega,b4⟩);have ak:=qH b4;clear u k2 k3 k4 b4 m4 D q1 q2 ax HR
 go_upto_region 9 with(first
  |(go_at_call 162;(with_reducible refine(a4.o w4 ak.o).mono ?_);rintro e w5 ⟨v5,rfl,o5,b5⟩;have O5:=qH o5;have C5:=qH (C4.o.next b5);have Z5:=qH b5.size;clear o5 b5)
  |(go_at_call 161;(with_reducible refine(a6.o w.heap.size (w.heap.size+1) (m+1) (m+1+1) m w4.heap.size 0 v5 w5 O5.o (by omega) (by omega) C5.o).mono ?_);rintro e I ⟨v6,rfl,o6,N6,aa,c6,k6⟩;obtain⟨A6,aF,ai⟩:=o6.form';rw[Ah] at ai;subst ai;obtain⟨O6,C6,am,K6⟩:=qh4 o6 c6 aa k6.size;clear o6 c6 k6 aa))
 have aI:m<w5.heap.size:=(by have:=Z5.o;omega);have aE:m+1+1<I.heap.size:=(by have:=Z5.o;have:=K6.o;omega);have aj:w.heap.size<=I.heap.size:=C6.o.b.size
 go_loopw [10,27] (λv i wr=> ∃j N':Nat,j<=P.length/\i=.int .i64 j/\Owp I.heap.size wr v (pvs L s (P.take j))/\N'<=N6+j/\Cs w w.heap.size (w.heap.size+1) (m+1) (m+1+1) m A n c L s N' wr/\Kept (One m) I wr) (λ_ i _=>P.length - (intOf i).toNat)
 case atStart=>exact⟨0,N6,qZ,rfl,Owp.nil _ _,qR,C6.o,Kept.refl _ _⟩
 case round=>
  obtain⟨j,N1,hj,rfl,G,R,hC,F⟩:=hrel;have ac:(pvs L s (P.take j)).length=j:=(by unfold pvs;rw[Ah,Af];omega);obtain⟨A1,c1,hv⟩:=G.form';rw[ac] at hv;subst hv;obtain⟨M,a5,al⟩:=qh3 G hC F;have aL:=F.size;by_cases af:j<P.length
  · obtain⟨⟨f,t⟩,hq⟩:∃q,P[j]? =some q:=⟨_,qE af⟩
    obtain⟨z,E⟩:=a7.o (f,t) (BP hq);simp only at z E;obtain⟨g,cc,ae,ar⟩:=O6.o.form (by rw[Ah];omega);simp only[Value.slice.injEq] at ae;obtain⟨rfl,av,rfl⟩:=ae;clear ar av;have au:=O6.o.lt g rfl;obtain⟨n0,n1,n2,n3⟩:=O6.o.cell (i:=j) (q:=Eb L (f,t)) (Ah ..) (by rw[Am,hq];rfl);have n0:=F.cell n0 (λe=>by have:g=m:=e;omega);have n1:=F.cell n1 (λe=>by have:g=m:=e;omega);have n2:=F.cell n2 (λe=>by have:g=m:=e;omega);have n3:=F.cell n3 (λe=>by have:g=m:=e;omega);simp only[Eb] at n0 n1 n2 n3;have HT:=qH (λ(r:World) (C:Cs w w.heap.size (w.heap.size+1) (m+1) (m+1+1) m A n c L s N1 r)=>xa HG.o z E (by have:=am.o;omega) C);have a0:pvs L s (P.take (j+1))=pvs L s (P.take j)++[⟨f,t,szt L t - szt L f,(kp L s f t).1⟩]:=by
     rw[Bd,hq,qm];rfl
    obtain⟨az,aA⟩:=HG.o.sub z E;have aw:(kp L s f t).1<=2:=kd_kind _ _;obtain⟨x,hx⟩:∃x,szt L f=x:=⟨_,rfl⟩
    obtain⟨y,hy⟩:∃y,szt L t=y:=⟨_,rfl⟩
    obtain⟨u,a⟩:∃u,(kp L s f t).1=u:=⟨_,rfl⟩
    obtain⟨k2,l⟩:∃k2,(kp L s f t).2=k2:=⟨_,rfl⟩
    obtain⟨d,hd⟩:∃d,y - x=d:=⟨_,rfl⟩
    rw[hx,hy,a,l] at HT;rw[hx,hy,a,hd] at a0;rw[hx] at n2;rw[hy] at n3;rw[hx,hy] at az;rw[hy] at aA;rw[a] at aw;have aJ:(y:Int) - (x:Int)=(d:Int):=(by omega);have aK:IntKind.i64.wrap (d:Int)=(d:Int):=(by rw[IntKind.wrap_i64];omega);have a8:=qH a0;generalize aq:pvs L s (P.take j)=PL at M a8 ac;have Y:=(Below.refl wr.heap.size wr).alloc qR (.cells #[.int .i64 f,.int .i64 t,.int .i64 x,.int .i64 y] 241);have J:=qH (And.intro af R);clear a0 G hC F hq hx hy a l hd aq z E R hj;clear au
    go_upto_region 11 with fail
    have X:=Hb.new wr 241 #[.int .i64 f,.int .i64 t,.int .i64 x,.int .i64 y];have U:=a5.o.next Y
    have Q:=al.o.trans (Kept.of_below Y) (λ_ e=>e.elim);have Z:=M.o.alloc (.cells #[.int .i64 f,.int .i64 t,.int .i64 x,.int .i64 y] 241);clear n0 n1 n2 n3 Y;generalize wr.alloc (.cells #[.int .i64 f,.int .i64 t,.int .i64 x,.int .i64 y] 241)=w7 at X U Q Z ⊢;obtain⟨K,C7,ap,O7⟩:=qh4 X U Q Z;have HS:=qH (λ(w':World) (hk:Kept (One m) w7 w')=>(show w'.cell? ⟨m+1+1,0,none⟩=some (.func (.func 158) #[] #[.pointer (some ⟨m+1,0,none⟩),.pointer (some ⟨w.heap.size,0,none⟩),.pointer (some ⟨w.heap.size+1,0,none⟩)])/\w'.cell? ⟨wr.heap.size,0,none⟩=some (.int .i64 f)/\w'.cell? ⟨wr.heap.size,1,none⟩=some (.int .i64 t)/\w'.cell? ⟨wr.heap.size,2,none⟩=some (.int .i64 x)/\w'.cell? ⟨wr.heap.size,3,none⟩=some (.int .i64 y) from⟨hk.cell C7.o.ct C7.o.nt,(K.o.kept hk (λe=>by have:wr.heap.size=m:=e;omega)).cells4⟩));have s7:=HS.o w7 (Kept.refl _ _);have aG:=vM;have a1:=M.o.lt;clear X U Q Z
    go_region_held3 (λw':World=>w'.cell? ⟨m+1+1,0,none⟩=some (.func (.func 158) #[] #[.pointer (some ⟨m+1,0,none⟩),.pointer (some ⟨w.heap.size,0,none⟩),.pointer (some ⟨w.heap.size+1,0,none⟩)])/\w'.cell? ⟨wr.heap.size,0,none⟩=some (.int .i64 f)/\w'.cell? ⟨wr.heap.size,1,none⟩=some (.int .i64 t)/\w'.cell? ⟨wr.heap.size,2,none⟩=some (.int .i64 x)/\w'.cell? ⟨wr.heap.size,3,none⟩=some (.int .i64 y)) (first|exact s7|exact s8|exact a3 _|exact s9)
     (first
      |(go_at_call 158;(with_reducible refine(HT.o _ (by first|exact C7.o|exact C7.o.next (Below.refl _ _).drew)).mono ?_);rintro e w8 ⟨rfl,N8,ab,c8,a2⟩;have k8:Kept (One m) w7 w8:=(by first|exact a2|exact(Kept.refl _ w7).drew.trans a2 (λ_ g=> .inl g));have s8:=HS.o w8 k8;have a3:=λo=>HS.o (w8.alloc o) (k8.alloc o);obtain⟨C8,K8⟩:=qh2 c8 k8;have O8:=qH (O7.o.at (λg hg=>k8.block g (O7.o.lt g hg).2 (λe=>by have h1:g=m:=e;have h2:=(O7.o.lt g hg).1;omega)));have an:=qH ab;have aN:=k8.size;have aM:=K.o.lt;clear a2 k8 c8 ab)
      |(refine FI rfl (.tmp 31) (.tmp 46) rfl I.heap.size _ PL rfl (O8.o.alloc _) w8.heap.size 1 ⟨f,t,d,u⟩ rfl ⟨by simp,by simp,by simp,by simp⟩ (by omega) (by simp;omega) ?_;intro v9 w9 o9 g9 b9;have ah:=((K.o.kept K8.o (λe=>by have:wr.heap.size=m:=e;omega)).alloc (.cells #[.int .i64 f,.int .i64 t,.int .i64 d,.int .u8 u] 102)).of (w':=w9) (g9.block _ (by simp;omega) (λe=>by have:=(a1 _ e.symm).2;omega));have a9:=(b9.cell (p:=⟨m+1+1,0,none⟩) (by show m+1+1<I.heap.size;omega)).trans (a3 (.cells #[.int .i64 f,.int .i64 t,.int .i64 d,.int .u8 u] 102)).1;have s9:=And.intro a9 ah.cells4;have k9:Kept (One m) I w9:=(((ap.o.trans K8.o (λ_ g=> .inl g)).alloc (.cells #[.int .i64 f,.int .i64 t,.int .i64 d,.int .u8 u] 102)).grown g9 (λk e=> .inr (a1 k e).1));have M9:=qH ((C8.o.next ((Below.refl w8.heap.size w8).alloc qR (.cells #[.int .i64 f,.int .i64 t,.int .i64 d,.int .u8 u] 102))).mem.of (w':=w9) (b9.block m (by omega)));obtain⟨K9,O9⟩:=qh2 k9 o9;clear o9 b9 g9 ah a9 k9))
    rename_i O
    clear O s7 s8 a3 s9 a1;go_wp2_with fail;go_roundw
    case rel=>exact⟨j+1,N8,J.o.1,by go_num,by rw[a8.o];exact O9.o,by have:=an.o;have:=J.o.2;omega,C6.o.step K9.o M9.o,K9.o⟩
    case measure=>(have:=J.o.1;simp[intOf];try omega)
  · obtain rfl:j=P.length:=by omega
    have ao:=qH (show Owp I.heap.size wr (.slice A1 P.length c1) (pvs L s P) by rw[Aj qR] at G;exact G);clear G hC F hj R;go_wp2_with fail;go_ret2;exact⟨_,rfl,ao.o.low aj,a5.o.b⟩
end V
namespace V
open Go Go.RowKit M U
structure Bk where
 k:Nat
 A:Option Addr
 n:Nat
 c:Nat
 L:List Tk
 raw:ByteArray
 last:Bool
def KG(x:Bk):Array Value:= #[.agg #[.int .u8 x.k,.slice x.A x.n x.c,.string x.raw,.bool x.last]]
noncomputable def bkb:List Bk->Nat->List Nat
 |[],_=> []
 |x::r,o=>bkm x.k x.L x.raw x.last o++bkb r (o+(bkm x.k x.L x.raw x.last o).length)
theorem pC(x:Bk):∀ (l:List Bk) (o:Nat),bkb (l++[x]) o=bkb l o++bkm x.k x.L x.raw x.last (o+(bkb l o).length)
 |[],o=>by simp[bkb]
 |y::l,o=>by
  simp only[Ac,bkb];rw[pC x l,qD,qA,AC]
theorem uE{w w':World}{S:Nat->Prop}(b:Kept S w w')(d:∀j,S j->∃o:Obj,w.heap[j]? =some o/\o.isCells=true)(n:Nat):KeepsFrom n w w':=
 ⟨b.size,λk o _ a f=>by
  refine(b.block k (qW.1 a).1 (λg=> ?_)).trans a;obtain⟨h,e,e'⟩:=d k g;rw[a] at e;cases e;rw[f] at e';cases e'⟩
def Rd(p n₁:Nat):Nat->Prop:=λj=>j=p\/n₁<=j
theorem L8{p n₁:Nat}{A B C:World}(h:Kept (Rd p n₁) A B)(k:Kept (Rd p n₁) B C):Kept (Rd p n₁) A C:=h.trans k λj a=> .inl a
structure lu(w2:World)(n₁ B p:Nat)(most:Int)(ps:List Bk×(Nat->Prop))(W:World):Prop where
 wt:Wt W B p ps.2 most (nb (bkb ps.1 0)) (bkb ps.1 0).length
 rd:∀j,ps.2 j->Rd p n₁ j
 kept:Kept (Rd p n₁) w2 W
theorem lu.own{k:World}{n₁ B p:Nat}{most:Int}:OwnFrom n₁ (lu k n₁ B p most):=λps W l row hs d f=>
 ⟨hs.wt.keep (Kept.of_grown d) (λj h e=>by
  obtain⟨_,o,i,g⟩:=f j e;obtain⟨q,a,b⟩:=dp hs.wt h;rw[i] at a;cases a;rw[g] at b;cases b),hs.rd,hs.kept.grown d (λr e=> .inl (.inr (f r e).1))⟩
theorem lu.lt{d W:World}{n₁ B p:Nat}{most:Int}{ps:List Bk×(Nat->Prop)}(h:lu d n₁ B p most ps W){j:Nat}(b:ps.2 j):j<W.heap.size:=by
 obtain⟨f,a,e⟩:=dp h.wt b;exact(qW.1 a).1
theorem lu.start{w2:World}{n₁ B p:Nat}{most:Int}{S:Nat->Prop}(h:Wt w2 B p S most 0 0)(a:∀j,S j->Rd p n₁ j):lu w2 n₁ B p most ([],S) w2:=
 ⟨h,a,Kept.refl _ _⟩
def Lz(w2:World)(n₁ B p:Nat)(most:Int)(W:World)(S:Nat->Prop)(l:List Bk)(W':World):Prop:=KeepsFrom n₁ W W'/\∃S',Kept S W W'/\lu w2 n₁ B p most (l,S') W'/\∀j,S' j->S j\/W.heap.size<=j
theorem lu.put{F W:World}{n₁ B p:Nat}{most:Int}{a:List Bk}{S:Nat->Prop}(h:lu F n₁ B p most (a,S) W)(x:Bk)(I:B<=W.heap.size)(Q:n₁<=W.heap.size)(v:∀w',Below B W w'->Tabs w')(K:∀w',Below B W w'->IsTks w' x.A x.n x.L)
 (J:(bkb a 0).length<=50000000) (P:x.n<=100000) (R:x.raw.size<=200000) (i:x.k<=2) (O:x.k≠0->∀t∈x.L,may t=true) (z:Ku x.k x.L):
 Calls prog 163 #[.pointer (some ⟨p,0,none⟩),.int .u8 x.k,.slice x.A x.n x.c,.string x.raw,.bool x.last] W λe W'=>
  ((((bkb (a++[x]) 0).length+7) /8:Nat)<=most->e=.returned (.int .i64 0)/\Lz F n₁ B p most W S (a++[x]) W')/\
  (¬(((bkb (a++[x]) 0).length+7) /8:Nat)<=most->e=.returned (.int .i64 4)/\KeepsFrom n₁ W W'/\Kept (Rd p n₁) W W'):=by
 obtain⟨C,u,y⟩:=h;simp only at C u;have M:∀j,S j->∃o:Obj,W.heap[j]? =some o/\o.isCells=true:=λj d=>dp C d
 have b:∀ {W':World},Kept S W W'->KeepsFrom n₁ W W'/\Kept (Rd p n₁) W W':=λi=>⟨uE i M _,i.mono u⟩
 have e:bkb (a++[x]) 0=bkb a 0++bkm x.k x.L x.raw x.last (bkb a 0).length:=(by rw[pC,Aa]);have l:(bkb (a++[x]) 0).length=(bkb a 0).length+(bkm x.k x.L x.raw x.last (bkb a 0).length).length:=(by rw[e,qA]);refine(z _ _ _ _ _ _ _ x.A x.n x.c x.raw x.last C I v K J P R i O).mono λT W' q=>⟨λhf=> ?_,λhf=> ?_⟩
 · have g:=q.1 (by rw[Ap,<-l];exact hf)
   rw[Ap] at g;obtain⟨G,D,H,r,E⟩:=g;refine⟨G,(b r).1,D,r,⟨?_,λj d=> ?_,L8 y (b r).2⟩,λj d=> ?_⟩
   · show Wt W' B p D most (nb (bkb (a++[x]) 0)) (bkb (a++[x]) 0).length
     rw[l,e,nb_append];exact H
   · rcases E j d with g|g
     · exact u j g
     · exact .inr (by omega)
   · rcases E j d with g|g
     · exact .inl g
     · exact .inr (by omega)
 · have g:=q.2 (by rw[Ap,<-l];exact hf)
   exact⟨g.1,b g.2⟩
theorem lu.round{G W:World}{n₁ B p:Nat}{most:Int}{a:List Bk}{S:Nat->Prop}(h:lu G n₁ B p most (a,S) W)(x:Bk)(I:B<=W.heap.size)(F:n₁<=W.heap.size)(C:∀w',Below B W w'->Tabs w')(K:∀w',Below B W w'->IsTks w' x.A x.n x.L)
 (J:(bkb a 0).length<=50000000) (U:x.n<=100000) (P:x.raw.size<=200000) (T:x.k<=2) (M:x.k≠0->∀t∈x.L,may t=true) (D:Ku x.k x.L):
 Calls prog 115 #[.pointer (some ⟨p,0,none⟩),.agg #[.int .u8 x.k,.slice x.A x.n x.c,.string x.raw,.bool x.last]] W λe i=>
  ((((bkb (a++[x]) 0).length+7) /8:Nat)<=most->e=.returned (.tuple #[])/\Lz G n₁ B p most W S (a++[x]) i)/\
  (¬(((bkb (a++[x]) 0).length+7) /8:Nat)<=most->e=.panicked [{v:=.iface 160 (.agg #[.int .i64 4]),recovered:=false}]/\KeepsFrom n₁ W i/\Kept (Rd p n₁) W i):=by
 obtain⟨o,V⟩:∃o:Obj,.cells #[.int .u8 x.k,.slice x.A x.n x.c,.string x.raw,.bool x.last] 164 =o:=⟨_,rfl⟩
 have d:Below B W (W.alloc o):=(Below.refl _ _).alloc I _;have l:KeepsFrom n₁ W (W.alloc o):=(KeepsOthers.alloc _ _).from _;have r:∀ {S:Nat->Prop},Kept S W (W.alloc o):=(Kept.refl _ _).alloc _;have O:=(lu.own.alloc o h).put x (qK I d.size) (qK F d.size) (λw' b=>C w' (d.trans b)) (λw' b=>K w' (d.trans b)) J U P T M D
 have H:=qH (show Calls prog 163 #[.pointer (some ⟨p,0,none⟩),.int .u8 x.k,.slice x.A x.n x.c,.string x.raw,.bool x.last] (W.alloc o) λe i=>
  ((((bkb (a++[x]) 0).length+7) /8:Nat)<=most->e=.returned (.int .i64 0)/\Lz G n₁ B p most W S (a++[x]) i)/\
  (¬(((bkb (a++[x]) 0).length+7) /8:Nat)<=most->e=.returned (.int .i64 4)/\KeepsFrom n₁ W i/\Kept (Rd p n₁) W i) from O.mono λe i q=>
  ⟨λhf=>let⟨u,y,S',q3,q4,q5⟩:=q.1 hf;⟨u,l.trans y,S',r.trans q3 (λj E=> .inl E),q4,λj E=>(q5 j E).imp id (λg=>qK d.size g)⟩,
   λhf=>let⟨u,y,q3⟩:=q.2 hf;⟨u,l.trans y,L8 r q3⟩⟩)
 clear d h C K M J P l r O D;subst V;by_cases hf:(((bkb (a++[x]) 0).length+7) /8:Nat)<=most
 · have z:=qH hf
   clear hf;go_enter func115,ntmps115;go_wp2_with (go_at_call 163;(with_reducible refine H.o.mono ?_);rintro e X ⟨q,_⟩;obtain⟨rfl,u⟩:=q z.o;have Q:=qH u;clear q u);go_end0;exact⟨λ_=>⟨rfl,Q.o⟩,λq=>by exfalso;have:=z.o;omega⟩
 · have z:=qH hf
   clear hf;go_enter func115,ntmps115;go_wp2_with (go_at_call 163;(with_reducible refine H.o.mono ?_);rintro e X ⟨_,q⟩;obtain⟨rfl,y⟩:=q z.o;have R:=qH y;clear q y);exact⟨rfl,λq=>by exfalso;have:=z.o;omega,λ_=>⟨rfl,R.o⟩⟩
