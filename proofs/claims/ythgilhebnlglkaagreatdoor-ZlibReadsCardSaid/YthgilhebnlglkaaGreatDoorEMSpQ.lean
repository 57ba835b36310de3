import Derived.Test.YthgilhebnlglkaaGreatDoorEMBpE
import Derived.Test.YthgilhebnlglkaaGreatDoorESpR
set_option linter.all false
set_option maxHeartbeats 8000000
set_option maxRecDepth 1000000
open Go.Proofs.Tryz
namespace Go.Proofs.YthgilhebnlglkaaGreatDoor.V
open Go Go.RowKit M U
theorem z5n(A:Option Addr)(n c:Nat)(L:List Tk)(s:ByteArray)(w:World)(h:z0j w A n L)(hn:n<=30000)(hs:s.size<=70000):
 Calls prog 157 #[.slice A n c,.string s] w λe w'=>e=.returned (.int .i64 (mys L s:Nat))/\Below w.heap.size w w':=by
 have HH:=qH h;have hl:=h.leng;have HL:=qH hl;have HSz:=qH (λ(w':World) (b:Below w.heap.size w w')=>Tx.size_any A n c L w' (h.below b) (by omega));have hzl:=Tx.szs_le L;have hz:Tx.szs L<=30000000:=(by omega);have d5:decide ((1048576:Int)<(s.size:Int))=false:=qF (by omega);have HM:=qH (show(∀i,i<n->may (L.getD i default)=true)->mys L s=if Tx.szs L=s.size then 0 else 7 from λq=>by
  unfold mys;rw[if_pos];rw[List.all_eq_true];intro x hx;obtain⟨i,hi,rfl⟩:=List.getElem_of_mem hx;have:=q i (by omega)
  rwa [List.getD,qE hi] at this)
 have HN:=qH (show ∀i,i<n->may (L.getD i default)=false->mys L s=2 from λi hi q=>by
  unfold mys;rw[if_neg];rw[List.all_eq_true];intro g;have hi2:i<L.length:=(by omega);have:=g (L[i]'hi2) (List.getElem_mem _);rw[List.getD,qE hi2] at q;simp only[Option.getD_some] at q;rw[this] at q;cases q)
 obtain⟨Z,hZ⟩:∃Z,Tx.szs L=Z:=⟨_,rfl⟩
 obtain⟨R,hR⟩:∃R,mys L s=R:=⟨_,rfl⟩
 rw[hZ] at HSz HM hz;rw[hR] at HM HN ⊢;clear h hl hZ hzl hR hs;go_enter func157,ntmps157;go_wp2_with fail
 go_loopw [9] (λx wr=> ∃i:Nat,i<=n/\x=.int .i64 i/\(∀j,j<i->may (L.getD j default)=true)/\Below w.heap.size w wr) (λx _=>n - (intOf x).toNat)
 case atStart=>exact⟨0,qZ,rfl,λj hj=>absurd hj (by omega),Below.refl _ _⟩
 case round=>
  obtain⟨i,hi,rfl,hm,hb⟩:=hrel;obtain⟨HB,HMy⟩:=qh2 hb hm;by_cases hin:i<n
  · obtain⟨b,o,rfl,hbl,hc⟩:=(HH.o.below hb).at (by omega)
    obtain⟨c0,c1,c2⟩:=hc i hin;obtain⟨q,hq⟩:∃q,may (L.getD i default)=q:=⟨_,rfl⟩
    have HQ:=qH hq;generalize ht:L.getD i default=t at c0 c1 c2 hq;obtain⟨tl,tn,td⟩:=t;simp only at c0 c1 c2;have hM:=z3O tl tn td;rw[hq] at hM;have HMa:=qH hM;have hi2:i<=100000:=(by omega);have HBA:=qH (HB.o.alloc HB.o.size (.cells #[.int .u8 tl,.int .i64 tn,.int .i64 td] 139));clear hM hb hc ht hm hq;cases q
    · go_wp2_with (go_at_call 194;refine(HMa.o _).mono ?_;rintro e w1 ⟨rfl,b1⟩;have B1:=qbt HBA b1;clear b1)
      go_ret;rw[HN.o i hin HQ.o];exact⟨rfl,B1.o⟩
    · go_wp2_with (go_at_call 194;refine(HMa.o _).mono ?_;rintro e w1 ⟨rfl,b1⟩;have B1:=qbt HBA b1;clear b1)
      go_roundw
      case rel=>exact⟨i+1,by omega,by go_num,λj hj=>by
       by_cases e:j=i
       · rw[e];exact HQ.o
       · exact HMy.o j (by omega),B1.o⟩
      case measure=>(simp[intOf];try omega)
  · obtain rfl:i=n:=by omega
    have hm2:=HM.o hm;by_cases hz2:Z=s.size
    · rw[if_pos hz2] at hm2
      have HM2:=qH hm2;have d6:((s.size:Int) !=(Z:Int))=false:=(by rw[bne_eq_false_iff_eq];omega);clear hb hm hm2 hz2;go_wp2_with (go_at_call 195;(with_reducible refine qcb HB (HSz.o _ HB.o) ?_);intro w2 B2);go_ret;rw[HM2.o];exact⟨rfl,B2.o⟩
    · rw[if_neg hz2] at hm2
      have HM2:=qH hm2;have d6:((s.size:Int) !=(Z:Int))=true:=(by rw[bne_iff_ne];omega);clear hb hm hm2 hz2;go_wp2_with (go_at_call 195;(with_reducible refine qcb HB (HSz.o _ HB.o) ?_);intro w2 B2);go_ret;rw[HM2.o];exact⟨rfl,B2.o⟩
theorem z4R:(prog.info? 243).map (λi=>i.size)=some 2:=by kernel_rfl
structure Ch(w:World)(bl br:Nat)(A:Option Addr)(n c:Nat)(L:List Tk)(s:ByteArray):Prop where
 tabs:Tabs w
 toks:z0j w A n L
 c1:w.cell? ⟨bl,0,none⟩=some (.slice A n c)
 c2:w.cell? ⟨br,0,none⟩=some (.string s)
theorem Ch.next{w w':World}{bl br:Nat}{A:Option Addr}{n c:Nat}{L:List Tk}{s:ByteArray}(h:Ch w bl br A n c L s)(hb:Below w.heap.size w w'):Ch w' bl br A n c L s:=
 ⟨h.tabs.keep hb,h.toks.below hb,(hb.cell (qB h.c1)).trans h.c1,(hb.cell (qB h.c2)).trans h.c2⟩
theorem z6N(k bl br:Nat)(A:Option Addr)(n c:Nat)(L:List Tk)(s:ByteArray)(w:World)(H:Ch w bl br A n c L s)(hk:k<=2)(hn:n<=30000)(hs:s.size<=70000)(hm:∀t∈L,may t=true)(hsz:SzC L):
 Calls prog 196 #[.int .u8 k,.pointer (some ⟨bl,0,none⟩),.pointer (some ⟨br,0,none⟩)] w λe w'=>e=.returned (.agg #[.int .u8 k,.int .i64 (b3 L s k:Nat)])/\Below w.heap.size w w':=by
 have hb0:=(Below.refl w.heap.size w).alloc qR (.cells #[.int .u8 0,.int .i64 0] 243);have HB:=qH hb0;have H0:=H.next hb0
 have HS:=qH (show Calls prog 197 #[.int .u8 k,.slice A n c,.string s,.int .i64 0] (w.alloc (.cells #[.int .u8 0,.int .i64 0] 243)) λe w'=>e=.returned (.tuple #[.int .i64 ((b3 L s k:Nat):Int),.int .i64 0])/\Below (w.alloc (.cells #[.int .u8 0,.int .i64 0] 243)).heap.size (w.alloc (.cells #[.int .u8 0,.int .i64 0] 243)) w' from
  hsz k A n c s 0 _ H0.tabs H0.toks (by omega) (by omega) (by omega) hk (λ_=>hm))
 have c1:=H0.c1;have c2:=H0.c2;generalize hZ:b3 L s k=Z at HS ⊢;clear hZ H0 H hb0 hm hsz;go_enter func196,ntmps196;go_wp2_with (go_at_call 197;(with_reducible refine HS.o.mono ?_);rintro e w1 ⟨rfl,b1⟩;have k1:=(Hb.new w 243 #[.int .u8 0,.int .i64 0]).next b1;have K1:=qH k1;have f0:=k1.free 0;have f1:=k1.free 1;obtain⟨e0,e1⟩:=k1.cells2;have B1:=qbt HB b1;clear b1 k1);exact bodyPost_ret (v:=.agg #[.int .u8 k,.int .i64 Z]) (results_cell_row rfl _ _ w.heap.size _ _ _ _ rfl (K1.o.put2 _ _).row underlying243 rfl z4R) rfl ⟨rfl,(B1.o.setCell (p:=⟨w.heap.size,0,none⟩) qR _).setCell (p:=⟨w.heap.size,1,none⟩) qR _⟩
theorem z9d(A:Option Addr)(n c:Nat)(L:List Tk)(s:ByteArray)(w:World)(H:Tabs w)(h:z0j w A n L)(hn:n<=30000)(hs:s.size<=70000)(hm:∀t∈L,may t=true)(hsz:SzC L):
 Calls prog 159 #[.slice A n c,.string s] w λe w'=>e=.returned (.agg #[.int .u8 ((kd L s).1:Nat),.int .i64 ((kd L s).2:Nat)])/\Below w.heap.size w w':=by
 have hl:=h.leng;have hb1:=(Below.refl w.heap.size w).alloc qR (.cells #[.slice A n c] 92);have hb2:=hb1.alloc hb1.size (.cells #[.string s] 9);have hb3:=hb2.alloc hb2.size (.cells #[.int .u8 0,.int .i64 0] 243);have hk1:=((Hb.new w 92 #[.slice A n c]).alloc (.cells #[.string s] 9)).alloc (.cells #[.int .u8 0,.int .i64 0] 243);have hk2:=(Hb.new (w.alloc (.cells #[.slice A n c] 92)) 9 #[.string s]).alloc (.cells #[.int .u8 0,.int .i64 0] 243);have hk3:=Hb.new ((w.alloc (.cells #[.slice A n c] 92)).alloc (.cells #[.string s] 9)) 243 #[.int .u8 0,.int .i64 0];simp only[World.size_alloc] at hk2 hk3;have HC0:=qH (show Ch (((w.alloc (.cells #[.slice A n c] 92)).alloc (.cells #[.string s] 9)).alloc (.cells #[.int .u8 0,.int .i64 0] 243)) w.heap.size (w.heap.size+1) A n c L s from⟨H.keep hb3,h.below hb3,hk1.cell 0 rfl,hk2.cell 0 rfl⟩);obtain⟨HK3,HB3⟩:=qh2 hk3 hb3;have HTT:=qH (And.intro H h);have HCa:=qH (λ(k:Nat) (hk:k<=2) (w1:World) (H1:Ch w1 w.heap.size (w.heap.size+1) A n c L s)=>z6N k w.heap.size (w.heap.size+1) A n c L s w1 H1 hk hn hs hm hsz);have HB:=qH (λk=>(zcr (k:=k) hs (by omega:L.length<=30000) hm));have HK:=qH (λj=>zbq hs (by omega:L.length<=30000) hm j);have HE:=qH (zhj L s);have HD:=qH (λj=>(show kds L s (j+1)=if b3 L s (j+1)<(kds L s j).2 then(j+1,b3 L s (j+1)) else kds L s j from rfl));clear hb1 hb2 hb3 hk1 hk2 hk3 H h hm hl hsz;obtain⟨F,hF⟩:∃F,b3 L s=F:=⟨_,rfl⟩
 obtain⟨G,hG⟩:∃G,kds L s=G:=⟨_,rfl⟩
 have hG0:G 0=(0,F 0):=(by rw[<-hG,<-hF];rfl);have HG0:=qH hG0;rw[<-HE.o];rw[hF] at HCa HB HD;rw[hG] at HK HD ⊢;have HCz:=qH (λ(w1:World) (H1:Ch w1 w.heap.size (w.heap.size+1) A n c L s)=>(show Calls prog 196 #[.int .u8 0,.pointer (some ⟨w.heap.size,0,none⟩),.pointer (some ⟨w.heap.size+1,0,none⟩)] w1 λe w'=>e=.returned (.agg #[.int .u8 0,.int .i64 ((F 0:Nat):Int)])/\Below w1.heap.size w1 w' from HCa.o 0 (by omega) w1 H1));clear hF hG HE hG0;go_enter func159,ntmps159;go_wp2_with (go_at_call 196;(with_reducible refine(HCz.o _ HC0.o).mono ?_);rintro e w1 ⟨rfl,b1⟩;have C1:=qH (HC0.o.next b1);have K1:=qH (HK3.o.next b1);have B1:=qbt HB3 b1;have z1:=b1.size;simp only[World.size_alloc] at z1;clear b1);have hx:=HK3.o.lt;simp only[World.size_alloc] at hx;obtain⟨X,hX⟩:∃X,w1.heap.size=X:=⟨_,rfl⟩
 rw[hX] at z1;have hb0:=(Below.refl w1.heap.size w1).alloc qR (.cells #[.int .u8 0,.int .i64 (F 0:Nat)] 243);have HC2:=qH (C1.o.next hb0);have HK2:=qH (K1.o.next hb0);have HG2:=qH (hX▸Hb.new w1 243 #[.int .u8 0,.int .i64 (F 0:Nat)]);have HB2:=qbt B1 hb0;rw[hX];generalize w1.alloc (.cells #[.int .u8 0,.int .i64 (F 0:Nat)] 243)=w2 at HC2 HK2 HG2 HB2 ⊢;clear hb0 hX C1 K1 B1 HC0 HK3 HB3 HCz
 go_loopw [7] (λx wr=> ∃j:Nat,j<=2/\x=.int .u8 ((j+1:Nat):Int)/\Hb wr 243 X #[.int .u8 ((G j).1:Nat),.int .i64 ((G j).2:Nat)]/\Hb wr 243 (w.heap.size+2) #[.int .u8 0,.int .i64 0]/\Ch wr w.heap.size (w.heap.size+1) A n c L s/\Below w.heap.size w wr) (λx _=>3 - (intOf x).toNat)
 case atStart=>exact⟨0,by omega,rfl,by rw[HG0.o];exact HG2.o,HK2.o,HC2.o,HB2.o⟩
 case round=>
  obtain⟨j,hj,rfl,hg,hk,hc,hb⟩:=hrel;obtain⟨HGw,HKw,HCw,HBw⟩:=qh4 hg hk hc hb;have hd:=HD.o j;generalize hk1:j+1=k at hd ⊢;have hgb:=HK.o j;obtain⟨g1,hg1⟩:∃g1,(G j).1=g1:=⟨_,rfl⟩
  obtain⟨g2,hg2⟩:∃g2,(G j).2=g2:=⟨_,rfl⟩
  rw[hg1,hg2] at hgb HGw;rw[hg2] at hd;clear hg hk hc hb;by_cases hk3:k<3
  · have d1:decide ((k:Int)<=2)=true:=q9T (by omega)
    have d1':decide (k<=2)=true:=q9T (by omega);have hfb:=HB.o k;have HS:=qH (HCa.o k (by omega) _ HCw.o);generalize hf:F k=f at hfb hd HS;have e8:IntKind.u8.wrap ((k:Int)+1)=((k+1:Nat):Int):=(by rcases(by omega:k=0\/k=1\/k=2) with rfl|rfl|rfl<;>rfl);have HWr:=qH (λ(w3:World) (b3:Below wr.heap.size wr w3)=>(show Hb w3 243 X #[.int .u8 g1,.int .i64 g2]/\Hb w3 243 (w.heap.size+2) #[.int .u8 0,.int .i64 0]/\Ch w3 w.heap.size (w.heap.size+1) A n c L s/\Below w.heap.size w w3 from⟨HGw.o.next b3,HKw.o.next b3,HCw.o.next b3,HBw.o.trans (b3.mono HBw.o.size)⟩));by_cases hlt:f<g2
    · have d2':decide (f<g2)=true:=q9T hlt
      have HR:=qH (show G k=(k,f) by rw[hd];exact if_pos hlt);have HJ:=qH (show j+1=k/\k<=2 from⟨hk1,by omega⟩);clear hd hlt hk1 hk3 hg1 hg2 hf hj
      go_wp2_with (go_at_call 196;(with_reducible refine HS.o.mono ?_);rintro e w2 ⟨rfl,b2⟩
       <;>(have b3:=b2.alloc b2.size (.cells #[.int .u8 k,.int .i64 f] 243);obtain⟨q1,q2,q3,q4⟩:=HWr.o _ b3;obtain⟨e0,e1⟩:=q1.cells2;have f0:=q1.free 0;have f1:=q1.free 1;obtain⟨Q1,Q2,Q3,Q4,Z2⟩:=qh5 q1 q2 q3 q4 b2.size;clear q1 q2 q3 q4 b2 b3))
      go_roundw
      case rel=>
       have hk9:=((Kept.refl (One X) (w2.alloc (.cells #[.int .u8 k,.int .i64 f] 243))).setCell ⟨X,0,none⟩ (.inl rfl) (.int .u8 k)).setCell ⟨X,1,none⟩ (.inl rfl) (.int .i64 f);have b9:=(Q4.o.setCell (p:=⟨X,0,none⟩) (by show w.heap.size<=X;omega) (.int .u8 k)).setCell (p:=⟨X,1,none⟩) (by show w.heap.size<=X;omega) (.int .i64 f);refine⟨k,HJ.o.2,by go_num,by rw[HR.o];exact Q1.o.put2 _ _,Q2.o.kept hk9 (λe=>by have:w.heap.size+2=X:=e;omega),⟨HTT.o.1.keep b9,HTT.o.2.below b9,hk9.cell Q3.o.c1 (λe=>by have:w.heap.size=X:=e;omega),hk9.cell Q3.o.c2 (λe=>by have:w.heap.size+1=X:=e;omega)⟩,b9⟩
      case measure=>(have:=HJ.o;simp[intOf];try omega)
    · have d2':decide (f<g2)=false:=qF hlt
      have HR:=qH (show G k=G j by rw[hd];exact if_neg hlt);have HJ:=qH (show j+1=k/\k<=2/\(G j).1=g1/\(G j).2=g2 from⟨hk1,by omega,hg1,hg2⟩);clear hd hlt hk1 hk3 hg1 hg2 hf hj
      go_wp2_with (go_at_call 196;(with_reducible refine HS.o.mono ?_);rintro e w2 ⟨rfl,b2⟩
       <;>(have b3:=b2.alloc b2.size (.cells #[.int .u8 k,.int .i64 f] 243);obtain⟨q1,q2,q3,q4⟩:=HWr.o _ b3;obtain⟨e0,e1⟩:=q1.cells2;obtain⟨Q1,Q2,Q3,Q4⟩:=qh4 q1 q2 q3 q4;clear q1 q2 q3 q4 b2 b3))
      go_roundw
      case rel=>exact⟨k,HJ.o.2.1,by go_num,by rw[HR.o,HJ.o.2.2.1,HJ.o.2.2.2];exact Q1.o,Q2.o,Q3.o,Q4.o⟩
      case measure=>(have:=HJ.o;simp[intOf];try omega)
  · obtain rfl:j=2:=by omega
    have d1:decide ((k:Int)<=2)=false:=qF (by omega);obtain⟨e0,e1⟩:=HGw.o.cells2;obtain⟨e2,e3⟩:=HKw.o.cells2;have f0:=HKw.o.free 0;have f1:=HKw.o.free 1;have HG12:=qH (And.intro hg1 hg2);clear hd hgb hg1 hg2 hk3 hj;go_wp2_with fail;refine bodyPost_ret (v:=.agg #[.int .u8 g1,.int .i64 g2]) (results_cell_row rfl _ _ (w.heap.size+2) _ _ _ _ rfl (HKw.o.put2 _ _).row underlying243 rfl z4R) rfl ⟨by rw[HG12.o.1,HG12.o.2],(HBw.o.setCell (p:=⟨w.heap.size+2,0,none⟩) (by show w.heap.size<=w.heap.size+2;omega) _).setCell (p:=⟨w.heap.size+2,1,none⟩) (by show w.heap.size<=w.heap.size+2;omega) _⟩
theorem zc9(a b:Int)(w:World):(Instr.field 243 (.agg #[.int .u8 a,.int .i64 b]) 0).run prog w=.ok (.int .u8 a) w:=by kernel_rfl
noncomputable def kq(L:List Tk)(s:ByteArray)(a b x y:Nat):Nat×Nat:=kd (seg L a b) (s.extract x y)
structure Gv(W:World)(A:Option Addr)(n c:Nat)(L:List Tk)(s:ByteArray):Prop where
 tabs:Tabs W
 toks:z0j W A n L
 nc:n<=c
 hn:n<=30000
 hs:s.size<=70000
 may:∀t∈L,may t=true
 z:Tx.szs L=s.size
 sz:∀f t,SzC (seg L f t)
structure Cs(W:World)(lb sb mb tb m:Nat)(A:Option Addr)(n c:Nat)(L:List Tk)(s:ByteArray)(N:Nat)(w:World):Prop where
 cl:w.cell? ⟨lb,0,none⟩=some (.slice A n c)
 cs:w.cell? ⟨sb,0,none⟩=some (.string s)
 cp:w.cell? ⟨mb,0,none⟩=some (.map (some m))
 ct:w.cell? ⟨tb,0,none⟩=some (.func (.func 158) #[] #[.pointer (some ⟨mb,0,none⟩),.pointer (some ⟨lb,0,none⟩),.pointer (some ⟨sb,0,none⟩)])
 mem:Mem w m N (kq L s)
 nl:lb≠m
 ns:sb≠m
 np:mb≠m
 nt:tb≠m
 bm:W.heap.size<=m
 b:Below W.heap.size W w
section
variable {W w w':World} {lb sb mb tb m:Nat} {A:Option Addr} {n c:Nat} {L:List Tk} {s:ByteArray} {N N':Nat}
theorem Cs.step(h:Cs W lb sb mb tb m A n c L s N w)(hk:Kept (One m) w w')(hm:Mem w' m N' (kq L s)):Cs W lb sb mb tb m A n c L s N' w':=
 ⟨hk.cell h.cl h.nl,hk.cell h.cs h.ns,hk.cell h.cp h.np,hk.cell h.ct h.nt,hm,h.nl,h.ns,h.np,h.nt,h.bm,h.b.trans (hk.below h.b.size (λj hj=>by have:j=m:=hj;have:=h.bm;omega))⟩
theorem Cs.next(h:Cs W lb sb mb tb m A n c L s N w)(hb:Below w.heap.size w w'):Cs W lb sb mb tb m A n c L s N w':=
 h.step ((Kept.of_below hb).none _) (h.mem.of (hb.block m h.mem.lt))
theorem Gv.sub(G:Gv W A n c L s){f t:Nat}(hf:f<=t)(ht:t<=n):szt L f<=szt L t/\szt L t<=s.size:=by
 have h1:=z1L L ht;rw[z6a (n:=n) (by rw[G.toks.leng];exact qR),G.z] at h1;exact⟨z1L L hf,h1⟩
theorem zcT(G:Gv W A n c L s){f t:Nat}(hf:f<=t)(ht:t<=n)(hN:N<=1000000)(C:Cs W lb sb mb tb m A n c L s N w):
 Calls prog 158 #[.agg #[.int .i64 f,.int .i64 t,.int .i64 (szt L f:Nat),.int .i64 (szt L t:Nat)],.pointer (some ⟨mb,0,none⟩),.pointer (some ⟨lb,0,none⟩),.pointer (some ⟨sb,0,none⟩)] w λe w'=>
  e=.returned (.agg #[.int .u8 ((kp L s f t).1:Nat),.int .i64 ((kp L s f t).2:Nat)])/\∃N',N'<=N+1/\Cs W lb sb mb tb m A n c L s N' w'/\Kept (One m) w w':=by
 obtain⟨hxy,hys⟩:=G.sub hf ht;have hs7:=G.hs;have hn1:=G.hn;have hnc:=G.nc;have hkq:kq L s f t (szt L f) (szt L t)=kp L s f t:=rfl;have hb1:=(Below.refl w.heap.size w).alloc qR (.cells #[.int .i64 f,.int .i64 t,.int .i64 (szt L f:Nat),.int .i64 (szt L t:Nat)] 241);have hb2:=hb1.alloc hb1.size (.cells #[.int .u8 0,.int .i64 0] 243);have C2:=C.next hb2
 have hlk:=C2.mem.look (a:=f) (b:=t) (c:=szt L f) (d:=szt L t) (by omega) (by omega) (by omega) (by omega);have k1:=(Hb.new w 241 #[.int .i64 f,.int .i64 t,.int .i64 (szt L f:Nat),.int .i64 (szt L t:Nat)]).alloc (.cells #[.int .u8 0,.int .i64 0] 243);have k2:=Hb.new (w.alloc (.cells #[.int .i64 f,.int .i64 t,.int .i64 (szt L f:Nat),.int .i64 (szt L t:Nat)] 241)) 243 #[.int .u8 0,.int .i64 0];simp only[World.size_alloc] at k2;unfold zcB chv at hlk;rw[hkq] at hlk
 have HChoose:=qH (λ(X:Option Addr) (hX:(if c=f then A else Option.map (λx=>x.add (f*3)) A)=X) (w':World) (b:Below W.heap.size W w') (cx:Nat)=>(show Calls prog 159 #[.slice X (t - f:Nat) cx,.string (s.extract (szt L f) (szt L t))] w' (λe w2=>e=.returned (.agg #[.int .u8 ((kp L s f t).1:Nat),.int .i64 ((kp L s f t).2:Nat)])/\Below w'.heap.size w' w2) from
  z9d X (t - f) cx (seg L f t) _ w' (G.tabs.keep b) (hX▸(G.toks.below b).sub hnc hf ht) (by omega) (by rw[ByteArray.size_extract];omega) (λx hx=>G.may x (z4n hx)) (G.sz f t)))
 have hkb:(kp L s f t).2<=20000000:=zj3 (by rw[ByteArray.size_extract];omega) (by rw[z3V (by rw[G.toks.leng];exact ht)];omega) (λx hx=>G.may x (z4n hx));have hkk:(kp L s f t).1<=2:=z6B _ _
 have HPut:=qH (λ(w':World) (h:Mem w' m N (kq L s))=>(show ∃w2,(Instr.mapUpdate 239 (.map (some m)) (.agg #[.int .i64 f,.int .i64 t,.int .i64 (szt L f:Nat),.int .i64 (szt L t:Nat)]) (.agg #[.int .u8 ((kp L s f t).1:Nat),.int .i64 ((kp L s f t).2:Nat)])).run prog w'=.ok () w2/\Mem w2 m (N+1) (kq L s)/\w'.grownBy w2 (some m) from
  h.put (a:=f) (b:=t) (c:=szt L f) (d:=szt L t) (by omega) (by omega) (by omega) (by omega) (by unfold maxLen;omega)))
 obtain⟨x,hx⟩:∃x,szt L f=x:=⟨_,rfl⟩
 obtain⟨y,hy⟩:∃y,szt L t=y:=⟨_,rfl⟩
 obtain⟨q1,hq1⟩:∃q1,(kp L s f t).1=q1:=⟨_,rfl⟩
 obtain⟨q2,hq2⟩:∃q2,(kp L s f t).2=q2:=⟨_,rfl⟩
 rw[hx,hy] at hxy hlk HChoose HPut k1 k2 C2 hb2 ⊢;rw[hy] at hys;rw[hq1,hq2] at HChoose HPut hlk ⊢;rw[hq1] at hkk;rw[hq2] at hkb;obtain⟨c1,c2,c3,c4⟩:=(show _/\_/\_/\_ from⟨C2.cl,C2.cs,C2.cp,C2.ct⟩)
 obtain⟨HC,HC2,HB2,HK1,HK2⟩:=qh5 C C2 hb2 k1 k2;clear hb1 k1 k2 C2 hb2 hkq C G hx hy hq1 hq2;have k3:=Hb.new (w.alloc (.cells #[.int .i64 f,.int .i64 t,.int .i64 x,.int .i64 y] 241)) 243 #[.int .u8 q1,.int .i64 q2];simp only[World.size_alloc] at k3;have K3:=qH k3;clear k3;rcases hlk with hlk|hlk
 · have HE:=qH (show ∀w',Below w.heap.size w w'->∃N',N'<=N+1/\Cs W lb sb mb tb m A n c L s N' w'/\Kept (One m) w w' from λw' b=>⟨N,Nat.le_succ _,HC.o.next b,(Kept.of_below b).none _⟩)
   go_enter func158,ntmps158;go_wp2_with fail;refine bodyPost_ret (v:=.agg #[.int .u8 q1,.int .i64 q2]) (results_cell_row rfl _ _ (w.heap.size+1) _ _ _ _ rfl (K3.o.alloc (.cells #[.int .u8 q1,.int .i64 q2] 243)).row underlying243 rfl z4R) rfl ⟨rfl,HE.o _ ((((Below.refl w.heap.size w).alloc qR _).alloc (by simp) _).alloc (by simp;omega) _)⟩
 · go_enter func158,ntmps158
   go_upto_region 3 with fail
   have hb0:=(Below.refl ((w.alloc (.cells #[.int .i64 f,.int .i64 t,.int .i64 x,.int .i64 y] 241)).alloc (.cells #[.int .u8 0,.int .i64 0] 243)).heap.size ((w.alloc (.cells #[.int .i64 f,.int .i64 t,.int .i64 x,.int .i64 y] 241)).alloc (.cells #[.int .u8 0,.int .i64 0] 243))).alloc qR (.cells #[.int .u8 0,.int .i64 0] 243);have g0:=Hb.new ((w.alloc (.cells #[.int .i64 f,.int .i64 t,.int .i64 x,.int .i64 y] 241)).alloc (.cells #[.int .u8 0,.int .i64 0] 243)) 243 #[.int .u8 0,.int .i64 0];simp only[World.size_alloc] at g0;have hc3:=HC2.o.next hb0
   have hk1:=HK1.o.next hb0
   have hk2:=HK2.o.next hb0
   have hb3:=HB2.o.trans (hb0.mono HB2.o.size);clear hb0 HC2 HK1 HK2 HB2 c1 c2 c3 c4 hlk;generalize ((w.alloc (.cells #[.int .i64 f,.int .i64 t,.int .i64 x,.int .i64 y] 241)).alloc (.cells #[.int .u8 0,.int .i64 0] 243)).alloc (.cells #[.int .u8 0,.int .i64 0] 243)=w3 at hc3 hk1 hk2 hb3 g0 ⊢;obtain⟨p0,p1,p2,p3⟩:=hk1.cells4;have cl:=hc3.cl;have cs:=hc3.cs;have ll:=qB cl;have ls:=qB cs;obtain⟨HC3,HK1,HK2,HG0,HB3⟩:=qh5 hc3 hk1 hk2 g0 hb3;obtain⟨X,hX⟩:∃X,(if c=f then A else Option.map (λx=>x.add (f*3)) A)=X:=⟨_,rfl⟩
   have HCh:=qH (HChoose.o X hX);generalize hTX:s.extract x y=TX at HCh;have htc:t<=c:=(by omega);have nl:lb≠w.heap.size+1+1:=λe=>by have h9:=qB HC.o.cl;have h10:lb<w.heap.size:=h9;omega
   have ns:sb≠w.heap.size+1+1:=λe=>by have h9:=qB HC.o.cs;have h10:sb<w.heap.size:=h9;omega
   clear hc3 hk1 hk2 hb3 g0 HChoose;have hS3:=And.intro cl (And.intro cs (And.intro p0 (And.intro p1 (And.intro p2 p3))))
   go_region_held3 (λw':World=>w'.cell? ⟨lb,0,none⟩=some (.slice A n c)/\w'.cell? ⟨sb,0,none⟩=some (.string s)/\w'.cell? ⟨w.heap.size,0,none⟩=some (.int .i64 f)/\w'.cell? ⟨w.heap.size,1,none⟩=some (.int .i64 t)/\w'.cell? ⟨w.heap.size,2,none⟩=some (.int .i64 x)/\w'.cell? ⟨w.heap.size,3,none⟩=some (.int .i64 y)) (first|exact hS3|exact l3|exact l4)
    (first|(go_at_call 159;(with_reducible refine(HCh.o _ (by first|exact HC3.o.b|exact HC3.o.b.drew) _).mono ?_);rintro e w4 ⟨rfl,b4'⟩;have b4:Below w3.heap.size w3 w4:=(by first|exact b4'|exact(Below.refl _ w3).drew.trans b4');clear b4';have l3:=And.intro ((b4.cell (p:=⟨lb,0,none⟩) ll).trans cl) (And.intro ((b4.cell (p:=⟨sb,0,none⟩) ls).trans cs) (HK1.o.next b4).cells4);have g4:=HG0.o.next b4;obtain⟨e0,e1⟩:=g4.cells2;have f0:=g4.free 0;have f1:=g4.free 1;have G4:=qH (g4.put2 (.int .u8 q1) (.int .i64 q2));have hk9:=((Kept.refl (One (w.heap.size+1+1)) w4).setCell ⟨w.heap.size+1+1,0,none⟩ (.inl rfl) (.int .u8 q1)).setCell ⟨w.heap.size+1+1,1,none⟩ (.inl rfl) (.int .i64 q2);have l4:=And.intro (hk9.cell l3.1 nl) (And.intro (hk9.cell l3.2.1 ns) ((HK1.o.next b4).kept hk9 (λe=>by have:w.heap.size=w.heap.size+1+1:=e;omega)).cells4);obtain⟨HK9,B4⟩:=qh2 hk9 b4;clear hk9 g4 b4))
   rename_i hHeld
   have hB5:=((HB3.o.trans (B4.o.mono HB3.o.size)).setCell (p:=⟨w.heap.size+1+1,0,none⟩) (by show w.heap.size<=w.heap.size+1+1;omega) (.int .u8 q1)).setCell (p:=⟨w.heap.size+1+1,1,none⟩) (by show w.heap.size<=w.heap.size+1+1;omega) (.int .i64 q2);have hG5:=G4.o;have hK5:=(HK1.o.next B4.o).kept HK9.o (λe=>by have:w.heap.size=w.heap.size+1+1:=e;omega);have hR5:=(HK2.o.next B4.o).kept HK9.o (λe=>by have:w.heap.size+1=w.heap.size+1+1:=e;omega);clear hHeld l3 l4 e0 e1 f0 f1 G4 HK9 B4 hS3 p0 p1 p2 p3 cl cs HK1 HK2 HG0 HB3 HCh HC3;generalize (w4.setCell ⟨w.heap.size+1+1,0,none⟩ (.int .u8 q1)).setCell ⟨w.heap.size+1+1,1,none⟩ (.int .i64 q2)=w5 at hB5 hG5 hK5 hR5 ⊢;have hC5:=HC.o.next hB5
   have cp:=hC5.cp;obtain⟨p0,p1,p2,p3⟩:=hK5.cells4;obtain⟨e0,e1⟩:=hG5.cells2;obtain⟨w6,hr,hm6,g6⟩:=HPut.o w5 hC5.mem;have hml:=HC.o.mem.lt;have hG6:=hG5.of (w':=w6) (g6.block _ hG5.lt (λe=>by injection e with e;omega));have hR6:=hR5.of (w':=w6) (g6.block _ hR5.lt (λe=>by injection e with e;omega));obtain⟨s0,s1⟩:=hG6.cells2;obtain⟨s2,s3⟩:=hR6.cells2;have f2:=hR6.free 0;have f3:=hR6.free 1;obtain⟨HR6,HM6⟩:=qh2 hR6 hm6;have HK6:=qH (((Kept.of_below hB5).none (One m)).grown g6 (λk e=> .inl (by cases e;rfl)));clear hB5 hG5 hK5 hR5 hC5 hm6 g6 hG6 hR6 HPut;go_wp2_with fail;have hm7:Mem ((w6.setCell ⟨w.heap.size+1,0,none⟩ (.int .u8 q1)).setCell ⟨w.heap.size+1,1,none⟩ (.int .i64 q2)) m (N+1) (kq L s):=HM6.o.of ((Below.heap_setCell _ _ _ _ (by show m≠w.heap.size+1;omega)).trans (Below.heap_setCell _ _ _ _ (by show m≠w.heap.size+1;omega)));have hk7:=(HK6.o.setCell ⟨w.heap.size+1,0,none⟩ (.inr (by show w.heap.size<=w.heap.size+1;omega)) (.int .u8 q1)).setCell ⟨w.heap.size+1,1,none⟩ (.inr (by show w.heap.size<=w.heap.size+1;omega)) (.int .i64 q2);refine bodyPost_ret (v:=.agg #[.int .u8 q1,.int .i64 q2]) (results_cell_row rfl _ _ (w.heap.size+1) _ _ _ _ rfl (HR6.o.put2 _ _).row underlying243 rfl z4R) rfl ⟨rfl,N+1,qR,HC.o.step hk7 hm7,hk7⟩
end
section
variable {W w w':World} {lb sb mb tb m:Nat} {A:Option Addr} {n c:Nat} {L:List Tk} {s:ByteArray} {N N':Nat}
def JnC(A:Option Addr)(n c:Nat)(L:List Tk)(s:ByteArray)(W:World):Prop:=∀ (lb sb mb tb m B N:Nat) (v:Value) (w:World),z1p B w v (z9t L n (cnk n+1))->m<B->N<=100000->Cs W lb sb mb tb m A n c L s N w->
 Calls prog 161 #[v,.func (.func 160) #[] #[.pointer (some ⟨tb,0,none⟩)]] w λe w'=>
  ∃v',e=.returned v'/\z1p w.heap.size w' v' ((pts L s).map (zgN L))/\∃N',N'<=N+3*cnk n/\Cs W lb sb mb tb m A n c L s N' w'/\Kept (One m) w w'
end
end Go.Proofs.YthgilhebnlglkaaGreatDoor.V
namespace Go.Proofs.YthgilhebnlglkaaGreatDoor.V
open Go Go.RowKit M U
open Go.ChangeShapes Go.WideShapes Go.Deep
theorem zbs(W:World):JnC none 0 0 [] ⟨#[]⟩ W:=λlb sb mb tb m B N v w hO hB hN C=>by
 have hP:z9t [] 0 (cnk 0+1)=[⟨0,0,0,0⟩]:=rfl;have hQ:(pts [] ⟨#[]⟩).map (zgN [])=[⟨0,0,0,0⟩]:=(by rw[z6k [] _ (by simp)];rfl);rw[hP] at hO;rw[hQ];obtain⟨g,c1,rfl,hc1⟩:=hO.form (by simp);have hO:z1p B w (.slice (some ⟨g,0,none⟩) 1 c1) [⟨0,0,0,0⟩]:=hO;have hc1:1<=c1:=hc1;obtain⟨x0,x1,x2,x3⟩:=hO.cell (i:=0) (q:=⟨0,0,0,0⟩) rfl rfl;simp only[Nat.zero_mul,Nat.zero_add] at x0 x1 x2 x3;have HC:=qH C;have hml:=C.mem.lt;obtain⟨X,hX⟩:∃X,(if c1=1 then some (⟨g,0,none⟩:Addr) else some ⟨g,4,none⟩)=X:=⟨_,rfl⟩
 clear hO C hP hQ;go_enter func161,ntmps161;go_wp2_with fail;have hb1:=(Below.refl w.heap.size w).alloc qR (.cells #[.int .i64 0,.int .i64 0,.int .i64 0,.int .i64 0] 241);have HC1:=qH (HC.o.next hb1);have HK1:=qH ((Kept.of_below hb1).none (One m));have HH1:=qH (Hb.new w 241 #[.int .i64 0,.int .i64 0,.int .i64 0,.int .i64 0]);generalize w.alloc (.cells #[.int .i64 0,.int .i64 0,.int .i64 0,.int .i64 0] 241)=w1 at HC1 HK1 HH1 ⊢;clear hb1 hX x0 x1 x2 x3
 go_loopw [5,17] (λv i wr=>v=.slice none 0 0/\i=.int .i64 0/\wr=w1) (λ_ _ _=>0)
 case atStart=>exact⟨rfl,rfl,rfl⟩
 case round=>
  obtain⟨rfl,rfl,rfl⟩:=hrel;obtain⟨h0,h1,h3,h4⟩:=HH1.o.cells4;have hHl:=HH1.o.lt;go_wp2_with (at_builtin;refine z2N rfl (.tmp 37) (.tmp 39) rfl (w.heap.size+1) _ [] rfl (z1p.nil _ _) wr.heap.size 1 ⟨0,0,0,0⟩ rfl ⟨by simp,by simp,by simp,by simp⟩ (by simp) (by simp;omega) ?_;intro v7 w7 o7 g7 i7 b7;obtain⟨O7,G7,B7⟩:=qh3 o7 g7 b7;clear o7 g7 b7 i7);go_ret;refine⟨_,rfl,O7.o.low (Nat.le_succ _),N,Nat.le_add_right _ _,?_⟩;have k8:Kept (One m) w w7:=(HK1.o.alloc _).grown G7.o (λk e=>by cases e);exact⟨HC.o.step k8 ((HC1.o.next ((Below.refl wr.heap.size wr).alloc qR _)).mem.of (B7.o.block m (by omega))),k8⟩
theorem Owp.low{B B':Nat}{w:World}{v:Value}{L:List Pv}(h:Owp B w v L)(hB:B'<=B):Owp B' w v L:=by
 obtain⟨h0,hh⟩:=h;refine⟨h0,?_⟩;rcases hh with⟨h1,h2⟩|⟨g,c,cs,h1,h2,r⟩
 · exact .inl ⟨h1,h2⟩
 · exact .inr ⟨g,c,cs,h1,qK hB h2,r⟩
theorem Chn.mem:∀ {l:List (Nat×Nat)} {a b:Nat} {q:Nat×Nat},Chn a l b->q∈l->q.1<=q.2/\q.2<=b
 |[],_,_,_,_,h=>absurd h (by simp)
 |p::l,a,b,q,hc,h=>by
  rcases List.mem_cons.1 h with rfl|h
  · exact⟨by rw[hc.1];exact hc.2.1,Chn.le hc.2.2⟩
  · exact Chn.mem hc.2.2 h
theorem zgo{ops:Array Oper}{o:Oper}{a:Act}{w:World}{K:Act->World->Prop}{Q:Exit->Act->World->Prop}{E:Prop}(hgd:o.guard=none)(s x:Operand)
 (ho:o.op=.call {callee:=.builtin .append,args:= #[s,x],argTypes:= #[99,99]}) (B:Nat) (v:Value) (L:List Pv) (hs:a.eval s=v) (h:Owp B w v L) (b c:Nat) (q:Pv)
 (hx:a.eval x=.slice (some ⟨b,0,none⟩) 1 c) (hc:w.cell? ⟨b,0,none⟩=some (.int .i64 q.f)/\w.cell? ⟨b,1,none⟩=some (.int .i64 q.t)/\w.cell? ⟨b,2,none⟩=some (.int .i64 q.z)/\w.cell? ⟨b,3,none⟩=some (.int .u8 q.k)) (hL:L.length<=1000000) (hB:B<=w.heap.size)
 (hK:∀v' w',Owp B w' v' (L++[q])->w.grownBy w' v.ownBlock->Below B w w'->K (a.put o.dst v') w'):if Region.wanted o (yielded ops a.tmps)=true then Oper.wp prog o a w K Q else E:=by
 have hw:Region.wanted o (yielded ops a.tmps)=true:=(by simp[Region.wanted,hgd]);rw[if_pos hw];obtain⟨i,h1,h2,h3,h4⟩:=info_of zdw
 obtain⟨v',w',r1,r2,r3,_⟩:=run_append_own (P:= prog) w B 99 o.type 102 i _ 4 32 underlying99 h1 h2 h3 h4 rfl (by decide) v L.length (clp L) h ⟨b,0,none⟩ 1 c (clp [q]) rfl
  (zdS hc) (zc5 _) (by unfold maxLen;omega) (by omega) hB
 unfold Oper.wp execOp;simp only[ho,resolve,invoke,builtin,Sem.run_bind,Sem.run_pure,Result.andThen_ok,List.map_toArray,List.map_cons,List.map_nil,hs,hx,r1];refine hK v' w' ?_ r3 ((Below.refl _ w).grown r3 hB (λk hk=>(World.ownsRow.lt h k hk).1));unfold Owp;rw[qA,z45];exact r2
theorem zdv(A:Option Addr)(n c:Nat)(L:List Tk)(s:ByteArray)(w:World)(H:Tabs w)(h:z0j w A n L)(hnc:n<=c)(hn:n<=30000)(hs:s.size<=70000)(hm:∀t∈L,may t=true)(hz:Tx.szs L=s.size)(hSz:∀f t,SzC (seg L f t))(hJ:JnC A n c L s w):
 Calls prog 112 #[.slice A n c,.string s] w λe w'=> ∃v,e=.returned (.tuple #[v,.int .i64 0])/\Owp w.heap.size w' v (pvs L s (pts L s))/\Below w.heap.size w w':=by
 have hG:Gv w A n c L s:=⟨H,h,hnc,hn,hs,hm,hz,hSz⟩;have HG:=qH hG;have hl:=h.leng;have hb1:=(Below.refl w.heap.size w).alloc qR (.cells #[.slice A n c] 92);have hb2:=hb1.alloc hb1.size (.cells #[.string s] 9);have hk1:=(Hb.new w 92 #[.slice A n c]).alloc (.cells #[.string s] 9);have hk2:=Hb.new (w.alloc (.cells #[.slice A n c] 92)) 9 #[.string s];simp only[World.size_alloc] at hk2;have HK:=qH (And.intro hk1 hk2);have HB:=qH hb2
 have HR:=qH (show Calls prog 157 #[.slice A n c,.string s] ((w.alloc (.cells #[.slice A n c] 92)).alloc (.cells #[.string s] 9)) λe w'=>e=.returned (.int .i64 0)/\Below ((w.alloc (.cells #[.slice A n c] 92)).alloc (.cells #[.string s] 9)).heap.size ((w.alloc (.cells #[.slice A n c] 92)).alloc (.cells #[.string s] 9)) w' from by
  have:=z5n A n c L s ((w.alloc (.cells #[.slice A n c] 92)).alloc (.cells #[.string s] 9)) (h.below hb2) hn hs;rw[zdF.2 ⟨hm,hz⟩] at this;exact this)
 have HCut:=qH (λ(w1:World) (b:Below w.heap.size w w1)=>zbW A n c L w1 (h.below b) hnc hn);have HJn:=qH (λ(lb sb mb tb m B N:Nat) (v:Value) (w1:World) (hO:z1p B w1 v (z9t L n (cnk n+1))) (hB:m<B) (hN:N<=100000) (C:Cs w lb sb mb tb m A n c L s N w1)=>hJ lb sb mb tb m B N v w1 hO hB hN C);have hch:=zgI L s;have hpl:(pts L s).length<=100:=by
  have h:=z25 (kp L s) (cut L.length) (cnk L.length);have h2:(pts L s).length<=cnk L.length+1:=h;unfold cnk at h2;omega
 have hcn:cnk n<=29:=(by unfold cnk;omega);rw[hl] at hch;have HMm:=qH (λ(q:Nat×Nat) (hq:q∈pts L s)=>hch.mem hq);generalize hP:pts L s=P at HJn HMm hpl ⊢;clear hch hP;have hmm:= @run_makeMap prog;clear hb1 hb2 hk1 hk2 H h hm hz hG hJ hSz;go_enter func112,ntmps112
 go_upto_region 8 with(go_at_call 157;(with_reducible refine HR.o.mono ?_);rintro e w1 ⟨rfl,b1⟩;have hk1:=HK.o.1.next b1;have hk2:=HK.o.2.next b1;have q1:=hk1.cell1;have q2:=hk2.cell1;obtain⟨K1,K2⟩:=qh2 hk1 hk2;have B1:=qbt HB b1;clear b1 hk1 hk2)
 obtain⟨m,hmE⟩:∃m,w1.heap.size=m:=⟨_,rfl⟩
 have k1:=((K1.o.alloc (.map #[] 0)).alloc (.cells #[.map (some m)] 239)).alloc (.cells #[.func (.func 158) #[] #[.pointer (some ⟨m+1,0,none⟩),.pointer (some ⟨w.heap.size,0,none⟩),.pointer (some ⟨w.heap.size+1,0,none⟩)]] 246);have k2:=((K2.o.alloc (.map #[] 0)).alloc (.cells #[.map (some m)] 239)).alloc (.cells #[.func (.func 158) #[] #[.pointer (some ⟨m+1,0,none⟩),.pointer (some ⟨w.heap.size,0,none⟩),.pointer (some ⟨w.heap.size+1,0,none⟩)]] 246);have k3:=(Hb.new (w1.alloc (.map #[] 0)) 239 #[.map (some m)]).alloc (.cells #[.func (.func 158) #[] #[.pointer (some ⟨m+1,0,none⟩),.pointer (some ⟨w.heap.size,0,none⟩),.pointer (some ⟨w.heap.size+1,0,none⟩)]] 246);have k4:=Hb.new ((w1.alloc (.map #[] 0)).alloc (.cells #[.map (some m)] 239)) 246 #[.func (.func 158) #[] #[.pointer (some ⟨m+1,0,none⟩),.pointer (some ⟨w.heap.size,0,none⟩),.pointer (some ⟨w.heap.size+1,0,none⟩)]];have b4:=((B1.o.alloc B1.o.size (.map #[] 0)).alloc (by have:=B1.o.size;simp;omega) (.cells #[.map (some m)] 239)).alloc (by have:=B1.o.size;simp;omega) (.cells #[.func (.func 158) #[] #[.pointer (some ⟨m+1,0,none⟩),.pointer (some ⟨w.heap.size,0,none⟩),.pointer (some ⟨w.heap.size+1,0,none⟩)]] 246);have m4:=(Mem.made w1 (kq L s)).of (w':=((w1.alloc (.map #[] 0)).alloc (.cells #[.map (some m)] 239)).alloc (.cells #[.func (.func 158) #[] #[.pointer (some ⟨m+1,0,none⟩),.pointer (some ⟨w.heap.size,0,none⟩),.pointer (some ⟨w.heap.size+1,0,none⟩)]] 246)) ((Below.heap_alloc _ _ _ (by simp;omega)).trans (Below.heap_alloc _ _ _ (by simp)));have hz1:=K1.o.lt;have hz2:=K2.o.lt;have hz4:(((w1.alloc (.map #[] 0)).alloc (.cells #[.map (some m)] 239)).alloc (.cells #[.func (.func 158) #[] #[.pointer (some ⟨m+1,0,none⟩),.pointer (some ⟨w.heap.size,0,none⟩),.pointer (some ⟨w.heap.size+1,0,none⟩)]] 246)).heap.size=m+1+1+1:=(by simp[hmE]);simp only[World.size_alloc,hmE] at k3 k4 m4 hz1 hz2;rw[hmE];generalize ((w1.alloc (.map #[] 0)).alloc (.cells #[.map (some m)] 239)).alloc (.cells #[.func (.func 158) #[] #[.pointer (some ⟨m+1,0,none⟩),.pointer (some ⟨w.heap.size,0,none⟩),.pointer (some ⟨w.heap.size+1,0,none⟩)]] 246)=w4 at k1 k2 k3 k4 b4 m4 hz4 ⊢;have cl:=k1.cell1;have C4:=qH (show Cs w w.heap.size (w.heap.size+1) (m+1) (m+1+1) m A n c L s 0 w4 from⟨k1.cell1,k2.cell1,k3.cell1,k4.cell1,m4,by omega,by omega,by omega,by omega,by omega,b4⟩);have HB4:=qH b4;clear k1 k2 k3 k4 b4 m4 hmE q1 q2 hmm HR
 go_upto_region 9 with(first
  |(go_at_call 162;(with_reducible refine(HCut.o w4 HB4.o).mono ?_);rintro e w5 ⟨v5,rfl,o5,b5⟩;have O5:=qH o5;have C5:=qH (C4.o.next b5);have Z5:=qH b5.size;clear o5 b5)
  |(go_at_call 161;(with_reducible refine(HJn.o w.heap.size (w.heap.size+1) (m+1) (m+1+1) m w4.heap.size 0 v5 w5 O5.o (by omega) (by omega) C5.o).mono ?_);rintro e w6 ⟨v6,rfl,o6,N6,hN6,c6,k6⟩;obtain⟨A6,cc6,hv6⟩:=o6.form';rw[List.length_map] at hv6;subst hv6;obtain⟨O6,C6,HN6,K6⟩:=qh4 o6 c6 hN6 k6.size;clear o6 c6 k6 hN6))
 have hm6:m<w5.heap.size:=(by have:=Z5.o;omega);have hm66:m+1+1<w6.heap.size:=(by have:=Z5.o;have:=K6.o;omega);have hw6l:w.heap.size<=w6.heap.size:=C6.o.b.size
 go_loopw [10,27] (λv i wr=> ∃j N':Nat,j<=P.length/\i=.int .i64 j/\Owp w6.heap.size wr v (pvs L s (P.take j))/\N'<=N6+j/\Cs w w.heap.size (w.heap.size+1) (m+1) (m+1+1) m A n c L s N' wr/\Kept (One m) w6 wr) (λ_ i _=>P.length - (intOf i).toNat)
 case atStart=>exact⟨0,N6,qZ,rfl,Owp.nil _ _,qR,C6.o,Kept.refl _ _⟩
 case round=>
  obtain⟨j,N1,hj,rfl,hO,hN1,hC,hK⟩:=hrel;have hPl:(pvs L s (P.take j)).length=j:=(by unfold pvs;rw[List.length_map,List.length_take];omega);obtain⟨A1,c1,hv⟩:=hO.form';rw[hPl] at hv;subst hv;obtain⟨HOw,HCw,HKw⟩:=qh3 hO hC hK;have hwr:=hK.size;by_cases hlt:j<P.length
  · obtain⟨⟨f,t⟩,hq⟩:∃q,P[j]? =some q:=⟨_,qE hlt⟩
    obtain⟨hft,htn⟩:=HMm.o (f,t) (List.mem_of_getElem? hq);simp only at hft htn;obtain⟨g,cc,hgv,hgc⟩:=O6.o.form (by rw[List.length_map];omega);simp only[Value.slice.injEq] at hgv;obtain⟨rfl,hgn,rfl⟩:=hgv;clear hgc hgn;have hgl:=O6.o.lt g rfl;obtain⟨n0,n1,n2,n3⟩:=O6.o.cell (i:=j) (q:=zgN L (f,t)) (List.length_map ..) (by rw[List.getElem?_map,hq];rfl);have n0:=hK.cell n0 (λe=>by have:g=m:=e;omega);have n1:=hK.cell n1 (λe=>by have:g=m:=e;omega);have n2:=hK.cell n2 (λe=>by have:g=m:=e;omega);have n3:=hK.cell n3 (λe=>by have:g=m:=e;omega);simp only[zgN] at n0 n1 n2 n3;have HT:=qH (λ(w1:World) (C:Cs w w.heap.size (w.heap.size+1) (m+1) (m+1+1) m A n c L s N1 w1)=>zcT HG.o hft htn (by have:=HN6.o;omega) C);have htk:pvs L s (P.take (j+1))=pvs L s (P.take j)++[⟨f,t,szt L t - szt L f,(kp L s f t).1⟩]:=by
     rw[List.take_add_one,hq,z8M];rfl
    obtain⟨hxy,hys⟩:=HG.o.sub hft htn;have hkk:(kp L s f t).1<=2:=z6B _ _;obtain⟨x,hx⟩:∃x,szt L f=x:=⟨_,rfl⟩
    obtain⟨y,hy⟩:∃y,szt L t=y:=⟨_,rfl⟩
    obtain⟨k1,hk1⟩:∃k1,(kp L s f t).1=k1:=⟨_,rfl⟩
    obtain⟨k2,hk2⟩:∃k2,(kp L s f t).2=k2:=⟨_,rfl⟩
    obtain⟨d,hd⟩:∃d,y - x=d:=⟨_,rfl⟩
    rw[hx,hy,hk1,hk2] at HT;rw[hx,hy,hk1,hd] at htk;rw[hx] at n2;rw[hy] at n3;rw[hx,hy] at hxy;rw[hy] at hys;rw[hk1] at hkk;have hsb:(y:Int) - (x:Int)=(d:Int):=(by omega);have hw1:IntKind.i64.wrap (d:Int)=(d:Int):=(by rw[IntKind.wrap_i64];omega);have HTk:=qH htk;generalize hPL:pvs L s (P.take j)=PL at HOw HTk hPl;have hnx:=(Below.refl wr.heap.size wr).alloc qR (.cells #[.int .i64 f,.int .i64 t,.int .i64 x,.int .i64 y] 241);have HJM:=qH (And.intro hlt hN1);clear htk hO hC hK hq hx hy hk1 hk2 hd hPL hft htn hN1 hj;clear hgl
    go_upto_region 11 with fail
    have hk7:=Hb.new wr 241 #[.int .i64 f,.int .i64 t,.int .i64 x,.int .i64 y];have hc7:=HCw.o.next hnx
    have hK7:=HKw.o.trans (Kept.of_below hnx) (λ_ e=>e.elim);have ho7:=HOw.o.alloc (.cells #[.int .i64 f,.int .i64 t,.int .i64 x,.int .i64 y] 241);clear n0 n1 n2 n3 hnx;generalize wr.alloc (.cells #[.int .i64 f,.int .i64 t,.int .i64 x,.int .i64 y] 241)=w7 at hk7 hc7 hK7 ho7 ⊢;obtain⟨HK7,C7,KK7,O7⟩:=qh4 hk7 hc7 hK7 ho7;have HS:=qH (λ(w':World) (hk:Kept (One m) w7 w')=>(show w'.cell? ⟨m+1+1,0,none⟩=some (.func (.func 158) #[] #[.pointer (some ⟨m+1,0,none⟩),.pointer (some ⟨w.heap.size,0,none⟩),.pointer (some ⟨w.heap.size+1,0,none⟩)])/\w'.cell? ⟨wr.heap.size,0,none⟩=some (.int .i64 f)/\w'.cell? ⟨wr.heap.size,1,none⟩=some (.int .i64 t)/\w'.cell? ⟨wr.heap.size,2,none⟩=some (.int .i64 x)/\w'.cell? ⟨wr.heap.size,3,none⟩=some (.int .i64 y) from⟨hk.cell C7.o.ct C7.o.nt,(HK7.o.kept hk (λe=>by have:wr.heap.size=m:=e;omega)).cells4⟩));have s7:=HS.o w7 (Kept.refl _ _);have hF0:=zc9;have hvl:=HOw.o.lt;clear hk7 hc7 hK7 ho7
    go_region_held3 (λw':World=>w'.cell? ⟨m+1+1,0,none⟩=some (.func (.func 158) #[] #[.pointer (some ⟨m+1,0,none⟩),.pointer (some ⟨w.heap.size,0,none⟩),.pointer (some ⟨w.heap.size+1,0,none⟩)])/\w'.cell? ⟨wr.heap.size,0,none⟩=some (.int .i64 f)/\w'.cell? ⟨wr.heap.size,1,none⟩=some (.int .i64 t)/\w'.cell? ⟨wr.heap.size,2,none⟩=some (.int .i64 x)/\w'.cell? ⟨wr.heap.size,3,none⟩=some (.int .i64 y)) (first|exact s7|exact s8|exact s8a _|exact s9)
     (first
      |(go_at_call 158;(with_reducible refine(HT.o _ (by first|exact C7.o|exact C7.o.next (Below.refl _ _).drew)).mono ?_);rintro e w8 ⟨rfl,N8,hN8,c8,k8'⟩;have k8:Kept (One m) w7 w8:=(by first|exact k8'|exact(Kept.refl _ w7).drew.trans k8' (λ_ g=> .inl g));have s8:=HS.o w8 k8;have s8a:=λo=>HS.o (w8.alloc o) (k8.alloc o);obtain⟨C8,K8⟩:=qh2 c8 k8;have O8:=qH (O7.o.at (λg hg=>k8.block g (O7.o.lt g hg).2 (λe=>by have h1:g=m:=e;have h2:=(O7.o.lt g hg).1;omega)));have HN8:=qH hN8;have hz8:=k8.size;have hz7:=HK7.o.lt;clear k8' k8 c8 hN8)
      |(refine zgo rfl (.tmp 31) (.tmp 46) rfl w6.heap.size _ PL rfl (O8.o.alloc _) w8.heap.size 1 ⟨f,t,d,k1⟩ rfl ⟨by simp,by simp,by simp,by simp⟩ (by omega) (by simp;omega) ?_;intro v9 w9 o9 g9 b9;have hp9:=((HK7.o.kept K8.o (λe=>by have:wr.heap.size=m:=e;omega)).alloc (.cells #[.int .i64 f,.int .i64 t,.int .i64 d,.int .u8 k1] 102)).of (w':=w9) (g9.block _ (by simp;omega) (λe=>by have:=(hvl _ e.symm).2;omega));have ct9:=(b9.cell (p:=⟨m+1+1,0,none⟩) (by show m+1+1<w6.heap.size;omega)).trans (s8a (.cells #[.int .i64 f,.int .i64 t,.int .i64 d,.int .u8 k1] 102)).1;have s9:=And.intro ct9 hp9.cells4;have k9:Kept (One m) w6 w9:=(((KK7.o.trans K8.o (λ_ g=> .inl g)).alloc (.cells #[.int .i64 f,.int .i64 t,.int .i64 d,.int .u8 k1] 102)).grown g9 (λk e=> .inr (hvl k e).1));have M9:=qH ((C8.o.next ((Below.refl w8.heap.size w8).alloc qR (.cells #[.int .i64 f,.int .i64 t,.int .i64 d,.int .u8 k1] 102))).mem.of (w':=w9) (b9.block m (by omega)));obtain⟨K9,O9⟩:=qh2 k9 o9;clear o9 b9 g9 hp9 ct9 k9))
    rename_i hHeld
    clear hHeld s7 s8 s8a s9 hvl;go_wp2_with fail;go_roundw
    case rel=>exact⟨j+1,N8,HJM.o.1,by go_num,by rw[HTk.o];exact O9.o,by have:=HN8.o;have:=HJM.o.2;omega,C6.o.step K9.o M9.o,K9.o⟩
    case measure=>(have:=HJM.o.1;simp[intOf];try omega)
  · obtain rfl:j=P.length:=by omega
    have HOf:=qH (show Owp w6.heap.size wr (.slice A1 P.length c1) (pvs L s P) by rw[List.take_of_length_le qR] at hO;exact hO);clear hO hC hK hj hN1;go_wp2_with fail;go_ret2;exact⟨_,rfl,HOf.o.low hw6l,HCw.o.b⟩
end Go.Proofs.YthgilhebnlglkaaGreatDoor.V
namespace Go.Proofs.YthgilhebnlglkaaGreatDoor.V
open Go Go.RowKit M U
structure Bk where
 k:Nat
 A:Option Addr
 n:Nat
 c:Nat
 L:List Tk
 raw:ByteArray
 last:Bool
def zjF(x:Bk):Array Value:= #[.agg #[.int .u8 x.k,.slice x.A x.n x.c,.string x.raw,.bool x.last]]
noncomputable def bkb:List Bk->Nat->List Nat
 |[],_=> []
 |x::r,o=>bkm x.k x.L x.raw x.last o++bkb r (o+(bkm x.k x.L x.raw x.last o).length)
theorem z8c(x:Bk):∀ (l:List Bk) (o:Nat),bkb (l++[x]) o=bkb l o++bkm x.k x.L x.raw x.last (o+(bkb l o).length)
 |[],o=>by simp[bkb]
 |y::l,o=>by
  simp only[List.cons_append,bkb];rw[z8c x l,qD,qA,Nat.add_assoc]
theorem kept_from{w w':World}{S:Nat->Prop}(hk:Kept S w w')(hS:∀j,S j->∃o:Obj,w.heap[j]? =some o/\o.isCells=true)(n:Nat):KeepsFrom n w w':=
 ⟨hk.size,λk o _ ho hc=>by
  refine(hk.block k (qW.1 ho).1 (λg=> ?_)).trans ho;obtain⟨o',e,e'⟩:=hS k g;rw[ho] at e;cases e;rw[hc] at e';cases e'⟩
def Rd(p n₁:Nat):Nat->Prop:=λj=>j=p\/n₁<=j
theorem zjZ{p n₁:Nat}{A B C:World}(h:Kept (Rd p n₁) A B)(k:Kept (Rd p n₁) B C):Kept (Rd p n₁) A C:=h.trans k λj hj=> .inl hj
structure z61(w2:World)(n₁ B p:Nat)(most:Int)(ps:List Bk×(Nat->Prop))(W:World):Prop where
 wt:Wt W B p ps.2 most (nb (bkb ps.1 0)) (bkb ps.1 0).length
 rd:∀j,ps.2 j->Rd p n₁ j
 kept:Kept (Rd p n₁) w2 W
theorem z61.own{w2:World}{n₁ B p:Nat}{most:Int}:OwnFrom n₁ (z61 w2 n₁ B p most):=λps W W' row hs hg hr=>
 ⟨hs.wt.keep (Kept.of_grown hg) (λj hj e=>by
  obtain⟨_,o,ho,hc⟩:=hr j e;obtain⟨o',e1,e2⟩:=z1J hs.wt hj;rw[ho] at e1;cases e1;rw[hc] at e2;cases e2),hs.rd,hs.kept.grown hg (λr e=> .inl (.inr (hr r e).1))⟩
theorem z61.lt{w2 W:World}{n₁ B p:Nat}{most:Int}{ps:List Bk×(Nat->Prop)}(h:z61 w2 n₁ B p most ps W){j:Nat}(hj:ps.2 j):j<W.heap.size:=by
 obtain⟨o',e1,e2⟩:=z1J h.wt hj;exact(qW.1 e1).1
theorem z61.start{w2:World}{n₁ B p:Nat}{most:Int}{S:Nat->Prop}(h:Wt w2 B p S most 0 0)(hS:∀j,S j->Rd p n₁ j):z61 w2 n₁ B p most ([],S) w2:=
 ⟨h,hS,Kept.refl _ _⟩
def zkn(w2:World)(n₁ B p:Nat)(most:Int)(W:World)(S:Nat->Prop)(l:List Bk)(W':World):Prop:=KeepsFrom n₁ W W'/\∃S',Kept S W W'/\z61 w2 n₁ B p most (l,S') W'/\∀j,S' j->S j\/W.heap.size<=j
theorem z61.put{w2 W:World}{n₁ B p:Nat}{most:Int}{pre:List Bk}{S:Nat->Prop}(h:z61 w2 n₁ B p most (pre,S) W)(x:Bk)(hB:B<=W.heap.size)(hn1:n₁<=W.heap.size)(hTb:∀w',Below B W w'->Tabs w')(hT:∀w',Below B W w'->z0j w' x.A x.n x.L)
 (hL:(bkb pre 0).length<=50000000) (hn:x.n<=100000) (hr:x.raw.size<=200000) (hk:x.k<=2) (hm:x.k≠0->∀t∈x.L,may t=true) (hpc:zjv x.k x.L):
 Calls prog 163 #[.pointer (some ⟨p,0,none⟩),.int .u8 x.k,.slice x.A x.n x.c,.string x.raw,.bool x.last] W λe W'=>
  ((((bkb (pre++[x]) 0).length+7) /8:Nat)<=most->e=.returned (.int .i64 0)/\zkn w2 n₁ B p most W S (pre++[x]) W')/\
  (¬(((bkb (pre++[x]) 0).length+7) /8:Nat)<=most->e=.returned (.int .i64 4)/\KeepsFrom n₁ W W'/\Kept (Rd p n₁) W W'):=by
 obtain⟨hw,hS,hkp⟩:=h;simp only at hw hS;have hc:∀j,S j->∃o:Obj,W.heap[j]? =some o/\o.isCells=true:=λj hj=>z1J hw hj
 have mono:∀ {W':World},Kept S W W'->KeepsFrom n₁ W W'/\Kept (Rd p n₁) W W':=λhk=>⟨kept_from hk hc _,hk.mono hS⟩
 have e:bkb (pre++[x]) 0=bkb pre 0++bkm x.k x.L x.raw x.last (bkb pre 0).length:=(by rw[z8c,Nat.zero_add]);have el:(bkb (pre++[x]) 0).length=(bkb pre 0).length+(bkm x.k x.L x.raw x.last (bkb pre 0).length).length:=(by rw[e,qA]);refine(hpc _ _ _ _ _ _ _ x.A x.n x.c x.raw x.last hw hB hTb hT hL hn hr hk hm).mono λen W' q=>⟨λhf=> ?_,λhf=> ?_⟩
 · have g:=q.1 (by rw[List.nil_append,<-el];exact hf)
   rw[List.nil_append] at g;obtain⟨g1,S',g2,g3,g4⟩:=g;refine⟨g1,(mono g3).1,S',g3,⟨?_,λj hj=> ?_,zjZ hkp (mono g3).2⟩,λj hj=> ?_⟩
   · show Wt W' B p S' most (nb (bkb (pre++[x]) 0)) (bkb (pre++[x]) 0).length
     rw[el,e,z1P];exact g2
   · rcases g4 j hj with g|g
     · exact hS j g
     · exact .inr (by omega)
   · rcases g4 j hj with g|g
     · exact .inl g
     · exact .inr (by omega)
 · have g:=q.2 (by rw[List.nil_append,<-el];exact hf)
   exact⟨g.1,mono g.2⟩
theorem z61.round{w2 W:World}{n₁ B p:Nat}{most:Int}{pre:List Bk}{S:Nat->Prop}(h:z61 w2 n₁ B p most (pre,S) W)(x:Bk)(hB:B<=W.heap.size)(hn1:n₁<=W.heap.size)(hTb:∀w',Below B W w'->Tabs w')(hT:∀w',Below B W w'->z0j w' x.A x.n x.L)
 (hL:(bkb pre 0).length<=50000000) (hn:x.n<=100000) (hr:x.raw.size<=200000) (hk:x.k<=2) (hm:x.k≠0->∀t∈x.L,may t=true) (hpc:zjv x.k x.L):
 Calls prog 115 #[.pointer (some ⟨p,0,none⟩),.agg #[.int .u8 x.k,.slice x.A x.n x.c,.string x.raw,.bool x.last]] W λe W'=>
  ((((bkb (pre++[x]) 0).length+7) /8:Nat)<=most->e=.returned (.tuple #[])/\zkn w2 n₁ B p most W S (pre++[x]) W')/\
  (¬(((bkb (pre++[x]) 0).length+7) /8:Nat)<=most->e=.panicked [{v:=.iface 160 (.agg #[.int .i64 4]),recovered:=false}]/\KeepsFrom n₁ W W'/\Kept (Rd p n₁) W W'):=by
 obtain⟨o,ho⟩:∃o:Obj,.cells #[.int .u8 x.k,.slice x.A x.n x.c,.string x.raw,.bool x.last] 164 =o:=⟨_,rfl⟩
 have hb1:Below B W (W.alloc o):=(Below.refl _ _).alloc hB _;have hk1:KeepsFrom n₁ W (W.alloc o):=(KeepsOthers.alloc _ _).from _;have hk2:∀ {S:Nat->Prop},Kept S W (W.alloc o):=(Kept.refl _ _).alloc _;have hp:=(z61.own.alloc o h).put x (qK hB hb1.size) (qK hn1 hb1.size) (λw' b=>hTb w' (hb1.trans b)) (λw' b=>hT w' (hb1.trans b)) hL hn hr hk hm hpc
 have HP:=qH (show Calls prog 163 #[.pointer (some ⟨p,0,none⟩),.int .u8 x.k,.slice x.A x.n x.c,.string x.raw,.bool x.last] (W.alloc o) λe W'=>
  ((((bkb (pre++[x]) 0).length+7) /8:Nat)<=most->e=.returned (.int .i64 0)/\zkn w2 n₁ B p most W S (pre++[x]) W')/\
  (¬(((bkb (pre++[x]) 0).length+7) /8:Nat)<=most->e=.returned (.int .i64 4)/\KeepsFrom n₁ W W'/\Kept (Rd p n₁) W W') from hp.mono λe W' q=>
  ⟨λhf=>let⟨q1,q2,S',q3,q4,q5⟩:=q.1 hf;⟨q1,hk1.trans q2,S',hk2.trans q3 (λj hj=> .inl hj),q4,λj hj=>(q5 j hj).imp id (λg=>qK hb1.size g)⟩,
   λhf=>let⟨q1,q2,q3⟩:=q.2 hf;⟨q1,hk1.trans q2,zjZ hk2 q3⟩⟩)
 clear hb1 h hTb hT hm hL hr hk1 hk2 hp hpc;subst ho;by_cases hf:(((bkb (pre++[x]) 0).length+7) /8:Nat)<=most
 · have HF:=qH hf
   clear hf;go_enter func115,ntmps115;go_wp2_with (go_at_call 163;(with_reducible refine HP.o.mono ?_);rintro e w1 ⟨q,_⟩;obtain⟨rfl,q1⟩:=q HF.o;have Q1:=qH q1;clear q q1);go_end0;exact⟨λ_=>⟨rfl,Q1.o⟩,λq=>by exfalso;have:=HF.o;omega⟩
 · have HF:=qH hf
   clear hf;go_enter func115,ntmps115;go_wp2_with (go_at_call 163;(with_reducible refine HP.o.mono ?_);rintro e w1 ⟨_,q⟩;obtain⟨rfl,q2⟩:=q HF.o;have Q2:=qH q2;clear q q2);exact⟨rfl,λq=>by exfalso;have:=HF.o;omega,λ_=>⟨rfl,Q2.o⟩⟩
