/- Texts of one place, one behind the other: SpQ, SpU, SpV, SpX. -/
import Derived.Test.YtacelhaidcmbcaaGreatDoorTMSpK
import Derived.Test.YtacelhaidcmbcaaGreatDoorTMSpG
import Derived.Test.YtacelhaidcmbcaaGreatDoorTMBpJ
import Derived.Test.YtacelhaidcmbcaaGreatDoorTMRns
import Derived.Test.YtacelhaidcmbcaaGreatDoorTMT9TkD
import Derived.Laws.EntriesVeiled
import Derived.BigQuiet
import Derived.Deep.QuietTactic
import Derived.Test.YtacelhaidcmbcaaGreatDoorTSpR
import Derived.Deep.RegionHeld3
import Derived.Test.YtacelhaidcmbcaaGreatDoorTMBwG
set_option maxHeartbeats 8000000
set_option maxRecDepth 1000000
set_option linter.unusedVariables false
set_option linter.unusedSimpArgs false
namespace Go.Proofs.YtacelhaidcmbcaaGreatDoor.V
open Go.Lib (hid)
open Go Go.RowKit M U
theorem z5M(A:Option Addr)(n c:Nat)(L:List Tk)(s:ByteArray)(w:World)(h:IsTks w A n L)(hn:n≤30000)(hs:s.size≤70000):
 Calls Tryz.prog 39 #[.slice A n c,.string s] w fun e w'=>e=.returned (.int .i64 (mys L s:Nat))∧Below w.heap.size w w':=by
 have HH:=hid h;have hl:=h.leng;have HL:=hid hl;have HSz:=hid (fun(w':World) (b:Below w.heap.size w w')=>Tx.size_any A n c L w' (h.below b) (by omega));have hzl:=Tx.szs_le L;have hz:Tx.szs L≤30000000:=by omega
 have d5:decide ((1048576:Int)<(s.size:Int))=false:=qF (by omega);have d5':decide (1048576<s.size)=false:=qF (by omega)
 have HM:=hid (show(∀i,i<n→may (L.getD i default)=true)→mys L s=if Tx.szs L=s.size then 0 else 7 from fun q=>by
  unfold mys;rw[if_pos];rw[List.all_eq_true];intro x hx;obtain⟨i,hi,rfl⟩:=List.getElem_of_mem hx;have:=q i (by omega)
  rwa [List.getD,qE hi] at this)
 have HN:=hid (show ∀i,i<n→may (L.getD i default)=false→mys L s=2 from fun i hi q=>by
  unfold mys;rw[if_neg];rw[List.all_eq_true];intro g;have hi2:i<L.length:=by omega
  have:=g (L[i]'hi2) (List.getElem_mem _);rw[List.getD,qE hi2] at q;simp only[Option.getD_some] at q;rw[this] at q;cases q)
 obtain⟨Z,hZ⟩:∃Z,Tx.szs L=Z:=⟨_,rfl⟩
 obtain⟨R,hR⟩:∃R,mys L s=R:=⟨_,rfl⟩
 rw[hZ] at HSz HM hz;rw[hR] at HM HN ⊢;clear h hl hZ hzl hR hs;go_enter Tryz.func39,Tryz.ntmps39;go_wp2_with fail
 go_loopw [9] (fun x wr=> ∃i:Nat,i≤n∧x=.int .i64 i∧(∀j,j<i→may (L.getD j default)=true)∧Below w.heap.size w wr) (fun x _=>n - (intOf x).toNat)
 case atStart=>exact⟨0,qZ,rfl,fun j hj=>absurd hj (by omega),Below.refl _ _⟩
 case round=>
  obtain⟨i,hi,rfl,hm,hb⟩:=hrel;have HB:=hid hb;have HMy:=hid hm;by_cases hin:i<n
  · have d4:decide ((i:Int)<(n:Int))=true:=q9T (by omega)
    have d4':decide (i<n)=true:=q9T hin;obtain⟨b,o,rfl,hbl,hc⟩:=(HH.out.below hb).at (by omega);obtain⟨c0,c1,c2⟩:=hc i hin;have hkL:i<L.length:=by rw[HL.out];exact hin
    obtain⟨q,hq⟩:∃q,may (L.getD i default)=q:=⟨_,rfl⟩
    have HQ:=hid hq;obtain⟨t,ht⟩:∃t,L.getD i default=t:=⟨_,rfl⟩
    rw[ht] at c0 c1 c2 hq;obtain⟨tl,tn,td⟩:=t;simp only at c0 c1 c2;have hM:=z3Y tl tn td;rw[hq] at hM;have HMa:=hid hM;have hi2:i≤100000:=by omega
    have HBA:=hid (HB.out.alloc HB.out.size (.cells #[.int .u8 tl,.int .i64 tn,.int .i64 td] 64));clear hM hb hc ht hkL hm hq;cases q
    · go_wp2_with (go_at_call 62;refine(HMa.out _).mono ?_;rintro e w1 ⟨rfl,b1⟩;have B1:=hid (HBA.out.trans (b1.mono HBA.out.size));clear b1)
      go_ret;rw[HN.out i hin HQ.out];exact⟨rfl,B1.out⟩
    · go_wp2_with (go_at_call 62;refine(HMa.out _).mono ?_;rintro e w1 ⟨rfl,b1⟩;have B1:=hid (HBA.out.trans (b1.mono HBA.out.size));clear b1)
      go_roundw
      case rel=>exact⟨i+1,by omega,by go_num,fun j hj=>by
       by_cases e:j=i
       · rw[e];exact HQ.out
       · exact HMy.out j (by omega),B1.out⟩
      case measure=>(simp[intOf];try omega)
  · obtain rfl:i=n:=by omega
    have d4:decide ((i:Int)<(i:Int))=false:=qF (by omega);have d4':decide (i<i)=false:=qF (by omega);have hm2:=HM.out hm;by_cases hz2:Z=s.size
    · rw[if_pos hz2] at hm2
      have HM2:=hid hm2;have d6:((s.size:Int) !=(Z:Int))=false:=by rw[bne_eq_false_iff_eq];omega
      clear hb hm hm2 hz2;go_wp2_with (go_at_call 63;(with_reducible refine(HSz.out _ HB.out).mono ?_);rintro e w2 ⟨rfl,b2⟩;have B2:=hid (HB.out.trans (b2.mono HB.out.size));clear b2);go_ret;rw[HM2.out];exact⟨rfl,B2.out⟩
    · rw[if_neg hz2] at hm2
      have HM2:=hid hm2;have d6:((s.size:Int) !=(Z:Int))=true:=by rw[bne_iff_ne];omega
      clear hb hm hm2 hz2;go_wp2_with (go_at_call 63;(with_reducible refine(HSz.out _ HB.out).mono ?_);rintro e w2 ⟨rfl,b2⟩;have B2:=hid (HB.out.trans (b2.mono HB.out.size));clear b2);go_ret;rw[HM2.out];exact⟨rfl,B2.out⟩
theorem z5k:(Tryz.prog.info? 98).map (fun i=>i.size)=some 2:=by kernel_rfl
structure Ch(w:World)(bl br:Nat)(A:Option Addr)(n c:Nat)(L:List Tk)(s:ByteArray):Prop where
 tabs:z5p w
 toks:IsTks w A n L
 c1:w.cell? ⟨bl,0,none⟩=some (.slice A n c)
 c2:w.cell? ⟨br,0,none⟩=some (.string s)
theorem Ch.next{w w':World}{bl br:Nat}{A:Option Addr}{n c:Nat}{L:List Tk}{s:ByteArray}(h:Ch w bl br A n c L s)(hb:Below w.heap.size w w'):Ch w' bl br A n c L s:=
 ⟨h.tabs.keep hb,h.toks.below hb,(hb.cell (qB h.c1)).trans h.c1,(hb.cell (qB h.c2)).trans h.c2⟩
theorem z7a(k bl br:Nat)(A:Option Addr)(n c:Nat)(L:List Tk)(s:ByteArray)(w:World)(H:Ch w bl br A n c L s)(hk:k≤2)(hn:n≤30000)(hs:s.size≤70000)(hm:∀t∈L,may t=true):
 Calls Tryz.prog 64 #[.int .u8 k,.pointer (some ⟨bl,0,none⟩),.pointer (some ⟨br,0,none⟩)] w fun e w'=>e=.returned (.agg #[.int .u8 k,.int .i64 (b3 L s k:Nat)])∧Below w.heap.size w w':=by
 have hb0:=(Below.refl w.heap.size w).alloc qR (.cells #[.int .u8 0,.int .i64 0] 98);have HB:=hid hb0;have H0:=H.next hb0
 have HS:=hid (show Calls Tryz.prog 65 #[.int .u8 k,.slice A n c,.string s,.int .i64 0] (w.alloc (.cells #[.int .u8 0,.int .i64 0] 98)) fun e w'=>e=.returned (.tuple #[.int .i64 ((b3 L s k:Nat):Int),.int .i64 0])∧Below (w.alloc (.cells #[.int .u8 0,.int .i64 0] 98)).heap.size (w.alloc (.cells #[.int .u8 0,.int .i64 0] 98)) w' from
  bks.size k A n c L s 0 _ H0.tabs H0.toks (by omega) (by omega) (by omega) hk (fun _=>hm))
 have c1:=H0.c1;have c2:=H0.c2;obtain⟨Z,hZ⟩:∃Z,b3 L s k=Z:=⟨_,rfl⟩
 rw[hZ] at HS ⊢;clear hZ H0 H hb0 hm;go_enter Tryz.func64,Tryz.ntmps64;go_wp2_with (go_at_call 65;(with_reducible refine HS.out.mono ?_);rintro e w1 ⟨rfl,b1⟩;have k1:=(Hb.new w 98 #[.int .u8 0,.int .i64 0]).next b1;have K1:=hid k1;have f0:=k1.free 0;have f1:=k1.free 1;obtain⟨e0,e1⟩:=k1.cells2;have B1:=hid (HB.out.trans (b1.mono HB.out.size));clear b1 k1);exact bodyPost_ret (v:=.agg #[.int .u8 k,.int .i64 Z]) (results_cell_row rfl _ _ w.heap.size _ _ _ _ rfl (K1.out.put2 _ _).row Tryz.underlying98 rfl z5k) rfl ⟨rfl,(B1.out.setCell (p:=⟨w.heap.size,0,none⟩) qR _).setCell (p:=⟨w.heap.size,1,none⟩) qR _⟩
theorem z9o(A:Option Addr)(n c:Nat)(L:List Tk)(s:ByteArray)(w:World)(H:z5p w)(h:IsTks w A n L)(hn:n≤30000)(hs:s.size≤70000)(hm:∀t∈L,may t=true):
 Calls Tryz.prog 41 #[.slice A n c,.string s] w fun e w'=>e=.returned (.agg #[.int .u8 ((kd L s).1:Nat),.int .i64 ((kd L s).2:Nat)])∧Below w.heap.size w w':=by
 have hl:=h.leng;have hb1:=(Below.refl w.heap.size w).alloc qR (.cells #[.slice A n c] 29);have hb2:=hb1.alloc hb1.size (.cells #[.string s] 9);have hb3:=hb2.alloc hb2.size (.cells #[.int .u8 0,.int .i64 0] 98);have hk1:=((Hb.new w 29 #[.slice A n c]).alloc (.cells #[.string s] 9)).alloc (.cells #[.int .u8 0,.int .i64 0] 98);have hk2:=(Hb.new (w.alloc (.cells #[.slice A n c] 29)) 9 #[.string s]).alloc (.cells #[.int .u8 0,.int .i64 0] 98);have hk3:=Hb.new ((w.alloc (.cells #[.slice A n c] 29)).alloc (.cells #[.string s] 9)) 98 #[.int .u8 0,.int .i64 0];simp only[World.size_alloc] at hk2 hk3;have HC0:=hid (show Ch (((w.alloc (.cells #[.slice A n c] 29)).alloc (.cells #[.string s] 9)).alloc (.cells #[.int .u8 0,.int .i64 0] 98)) w.heap.size (w.heap.size+1) A n c L s from⟨H.keep hb3,h.below hb3,hk1.cell 0 rfl,hk2.cell 0 rfl⟩);have HK3:=hid hk3;have HB3:=hid hb3;have HTT:=hid (And.intro H h);have HCa:=hid (fun(k:Nat) (hk:k≤2) (w1:World) (H1:Ch w1 w.heap.size (w.heap.size+1) A n c L s)=>z7a k w.heap.size (w.heap.size+1) A n c L s w1 H1 hk hn hs hm);have HB:=hid (fun k=>(zcn (k:=k) hs (by omega:L.length≤30000) hm));have HK:=hid (fun j=>zbr hs (by omega:L.length≤30000) hm j);have HE:=hid (zbq L s);have HD:=hid (fun j=>(show kds L s (j+1)=if b3 L s (j+1)<(kds L s j).2 then(j+1,b3 L s (j+1)) else kds L s j from rfl));clear hb1 hb2 hb3 hk1 hk2 hk3 H h hm hl;obtain⟨F,hF⟩:∃F,b3 L s=F:=⟨_,rfl⟩
 obtain⟨G,hG⟩:∃G,kds L s=G:=⟨_,rfl⟩
 have hG0:G 0=(0,F 0):=by rw[←hG,←hF];rfl
 have HG0:=hid hG0;rw[←HE.out];rw[hF] at HCa HB HD;rw[hG] at HK HD ⊢;have HCz:=hid (fun(w1:World) (H1:Ch w1 w.heap.size (w.heap.size+1) A n c L s)=>(show Calls Tryz.prog 64 #[.int .u8 0,.pointer (some ⟨w.heap.size,0,none⟩),.pointer (some ⟨w.heap.size+1,0,none⟩)] w1 fun e w'=>e=.returned (.agg #[.int .u8 0,.int .i64 ((F 0:Nat):Int)])∧Below w1.heap.size w1 w' from HCa.out 0 (by omega) w1 H1));clear hF hG HE hG0;go_enter Tryz.func41,Tryz.ntmps41;go_wp2_with (go_at_call 64;(with_reducible refine(HCz.out _ HC0.out).mono ?_);rintro e w1 ⟨rfl,b1⟩;have C1:=hid (HC0.out.next b1);have K1:=hid (HK3.out.next b1);have B1:=hid (HB3.out.trans (b1.mono HB3.out.size));have z1:=b1.size;simp only[World.size_alloc] at z1;clear b1);have hx:=HK3.out.lt;simp only[World.size_alloc] at hx;obtain⟨X,hX⟩:∃X,w1.heap.size=X:=⟨_,rfl⟩
 rw[hX] at z1;have hb0:=(Below.refl w1.heap.size w1).alloc qR (.cells #[.int .u8 0,.int .i64 (F 0:Nat)] 98);have HC2:=hid (C1.out.next hb0);have HK2:=hid (K1.out.next hb0);have HG2:=hid (hX▸Hb.new w1 98 #[.int .u8 0,.int .i64 (F 0:Nat)]);have HB2:=hid (B1.out.trans (hb0.mono B1.out.size));rw[hX];generalize w1.alloc (.cells #[.int .u8 0,.int .i64 (F 0:Nat)] 98)=w2 at HC2 HK2 HG2 HB2 ⊢;clear hb0 hX C1 K1 B1 HC0 HK3 HB3 HCz
 go_loopw [7] (fun x wr=> ∃j:Nat,j≤2∧x=.int .u8 ((j+1:Nat):Int)∧Hb wr 98 X #[.int .u8 ((G j).1:Nat),.int .i64 ((G j).2:Nat)]∧Hb wr 98 (w.heap.size+2) #[.int .u8 0,.int .i64 0]∧Ch wr w.heap.size (w.heap.size+1) A n c L s∧Below w.heap.size w wr) (fun x _=>3 - (intOf x).toNat)
 case atStart=>exact⟨0,by omega,rfl,by rw[HG0.out];exact HG2.out,HK2.out,HC2.out,HB2.out⟩
 case round=>
  obtain⟨j,hj,rfl,hg,hk,hc,hb⟩:=hrel;have HGw:=hid hg;have HKw:=hid hk;have HCw:=hid hc;have HBw:=hid hb;have hd:=HD.out j;obtain⟨k,hk1⟩:∃k,j+1=k:=⟨_,rfl⟩
  rw[hk1] at hd ⊢;have hgb:=HK.out j;obtain⟨g1,hg1⟩:∃g1,(G j).1=g1:=⟨_,rfl⟩
  obtain⟨g2,hg2⟩:∃g2,(G j).2=g2:=⟨_,rfl⟩
  rw[hg1,hg2] at hgb HGw;rw[hg2] at hd;clear hg hk hc hb;by_cases hk3:k<3
  · have d1:decide ((k:Int)≤2)=true:=q9T (by omega)
    have d1':decide (k≤2)=true:=q9T (by omega);have hfb:=HB.out k;have HS:=hid (HCa.out k (by omega) _ HCw.out);obtain⟨f,hf⟩:∃f,F k=f:=⟨_,rfl⟩
    rw[hf] at hfb hd HS;have e8:IntKind.u8.wrap ((k:Int)+1)=((k+1:Nat):Int):=by rcases(by omega:k=0∨k=1∨k=2) with rfl|rfl|rfl<;>rfl
    have HWr:=hid (fun(w3:World) (b3:Below wr.heap.size wr w3)=>(show Hb w3 98 X #[.int .u8 g1,.int .i64 g2]∧Hb w3 98 (w.heap.size+2) #[.int .u8 0,.int .i64 0]∧Ch w3 w.heap.size (w.heap.size+1) A n c L s∧Below w.heap.size w w3 from⟨HGw.out.next b3,HKw.out.next b3,HCw.out.next b3,HBw.out.trans (b3.mono HBw.out.size)⟩));by_cases hlt:f<g2
    · have d2:decide ((f:Int)<(g2:Int))=true:=q9T (by omega)
      have d2':decide (f<g2)=true:=q9T hlt;have HR:=hid (show G k=(k,f) by rw[hd];exact if_pos hlt);have HJ:=hid (show j+1=k∧k≤2 from⟨hk1,by omega⟩);clear hd hlt hk1 hk3 hg1 hg2 hf hj
      go_wp2_with (go_at_call 64;(with_reducible refine HS.out.mono ?_);rintro e w2 ⟨rfl,b2⟩
       <;>(have b3:=b2.alloc b2.size (.cells #[.int .u8 k,.int .i64 f] 98);obtain⟨q1,q2,q3,q4⟩:=HWr.out _ b3;obtain⟨e0,e1⟩:=q1.cells2;have f0:=q1.free 0;have f1:=q1.free 1;have Q1:=hid q1;have Q2:=hid q2;have Q3:=hid q3;have Q4:=hid q4;have Z2:=hid b2.size;clear q1 q2 q3 q4 b2 b3))
      go_roundw
      case rel=>
       have hk9:=((Kept.refl (One X) (w2.alloc (.cells #[.int .u8 k,.int .i64 f] 98))).setCell ⟨X,0,none⟩ (.inl rfl) (.int .u8 k)).setCell ⟨X,1,none⟩ (.inl rfl) (.int .i64 f);have b9:=(Q4.out.setCell (p:=⟨X,0,none⟩) (by show w.heap.size≤X;omega) (.int .u8 k)).setCell (p:=⟨X,1,none⟩) (by show w.heap.size≤X;omega) (.int .i64 f);refine⟨k,HJ.out.2,by go_num,by rw[HR.out];exact Q1.out.put2 _ _,Q2.out.kept hk9 (fun e=>by have:w.heap.size+2=X:=e;omega),⟨HTT.out.1.keep b9,HTT.out.2.below b9,hk9.cell Q3.out.c1 (fun e=>by have:w.heap.size=X:=e;omega),hk9.cell Q3.out.c2 (fun e=>by have:w.heap.size+1=X:=e;omega)⟩,b9⟩
      case measure=>(have:=HJ.out;simp[intOf];try omega)
    · have d2:decide ((f:Int)<(g2:Int))=false:=qF (by omega)
      have d2':decide (f<g2)=false:=qF hlt;have HR:=hid (show G k=G j by rw[hd];exact if_neg hlt);have HJ:=hid (show j+1=k∧k≤2∧(G j).1=g1∧(G j).2=g2 from⟨hk1,by omega,hg1,hg2⟩);clear hd hlt hk1 hk3 hg1 hg2 hf hj
      go_wp2_with (go_at_call 64;(with_reducible refine HS.out.mono ?_);rintro e w2 ⟨rfl,b2⟩
       <;>(have b3:=b2.alloc b2.size (.cells #[.int .u8 k,.int .i64 f] 98);obtain⟨q1,q2,q3,q4⟩:=HWr.out _ b3;obtain⟨e0,e1⟩:=q1.cells2;have Q1:=hid q1;have Q2:=hid q2;have Q3:=hid q3;have Q4:=hid q4;clear q1 q2 q3 q4 b2 b3))
      go_roundw
      case rel=>exact⟨k,HJ.out.2.1,by go_num,by rw[HR.out,HJ.out.2.2.1,HJ.out.2.2.2];exact Q1.out,Q2.out,Q3.out,Q4.out⟩
      case measure=>(have:=HJ.out;simp[intOf];try omega)
  · obtain rfl:j=2:=by omega
    have d1:decide ((k:Int)≤2)=false:=qF (by omega);have d1':decide (k≤2)=false:=qF (by omega);have hle:g2≤20000000:=hgb.1;obtain⟨e0,e1⟩:=HGw.out.cells2;obtain⟨e2,e3⟩:=HKw.out.cells2;have f0:=HKw.out.free 0;have f1:=HKw.out.free 1;have HG12:=hid (And.intro hg1 hg2);clear hd hgb hg1 hg2 hk3 hj;go_wp2_with fail;refine bodyPost_ret (v:=.agg #[.int .u8 g1,.int .i64 g2]) (results_cell_row rfl _ _ (w.heap.size+2) _ _ _ _ rfl (HKw.out.put2 _ _).row Tryz.underlying98 rfl z5k) rfl ⟨by rw[HG12.out.1,HG12.out.2],(HBw.out.setCell (p:=⟨w.heap.size+2,0,none⟩) (by show w.heap.size≤w.heap.size+2;omega) _).setCell (p:=⟨w.heap.size+2,1,none⟩) (by show w.heap.size≤w.heap.size+2;omega) _⟩
theorem zc6(a b:Int)(w:World):(Instr.field 98 (.agg #[.int .u8 a,.int .i64 b]) 0).run Tryz.prog w=.ok (.int .u8 a) w:=by kernel_rfl
theorem zc5(a b:Int)(w:World):(Instr.field 98 (.agg #[.int .u8 a,.int .i64 b]) 1).run Tryz.prog w=.ok (.int .i64 b) w:=by kernel_rfl
noncomputable def kq(L:List Tk)(s:ByteArray)(a b x y:Nat):Nat×Nat:=kd (seg L a b) (s.extract x y)
structure Gv(W:World)(A:Option Addr)(n c:Nat)(L:List Tk)(s:ByteArray):Prop where
 tabs:z5p W
 toks:IsTks W A n L
 nc:n≤c
 hn:n≤30000
 hs:s.size≤70000
 may:∀t∈L,may t=true
 z:Tx.szs L=s.size
structure Cs(W:World)(lb sb mb tb m:Nat)(A:Option Addr)(n c:Nat)(L:List Tk)(s:ByteArray)(N:Nat)(w:World):Prop where
 cl:w.cell? ⟨lb,0,none⟩=some (.slice A n c)
 cs:w.cell? ⟨sb,0,none⟩=some (.string s)
 cp:w.cell? ⟨mb,0,none⟩=some (.map (some m))
 ct:w.cell? ⟨tb,0,none⟩=some (.func (.func 40) #[] #[.pointer (some ⟨mb,0,none⟩),.pointer (some ⟨lb,0,none⟩),.pointer (some ⟨sb,0,none⟩)])
 mem:Mem w m N (kq L s)
 nl:lb≠m
 ns:sb≠m
 np:mb≠m
 nt:tb≠m
 bm:W.heap.size≤m
 b:Below W.heap.size W w
section
variable {W w w':World} {lb sb mb tb m:Nat} {A:Option Addr} {n c:Nat} {L:List Tk} {s:ByteArray} {N N':Nat}
theorem Cs.step(h:Cs W lb sb mb tb m A n c L s N w)(hk:Kept (One m) w w')(hm:Mem w' m N' (kq L s)):Cs W lb sb mb tb m A n c L s N' w':=
 ⟨hk.cell h.cl h.nl,hk.cell h.cs h.ns,hk.cell h.cp h.np,hk.cell h.ct h.nt,hm,h.nl,h.ns,h.np,h.nt,h.bm,h.b.trans (hk.below h.b.size (fun j hj=>by have:j=m:=hj;have:=h.bm;omega))⟩
theorem Cs.next(h:Cs W lb sb mb tb m A n c L s N w)(hb:Below w.heap.size w w'):Cs W lb sb mb tb m A n c L s N w':=
 h.step ((Kept.of_below hb).none _) (h.mem.of (hb.block m h.mem.lt))
theorem Gv.sub(G:Gv W A n c L s){f t:Nat}(hf:f≤t)(ht:t≤n):szt L f≤szt L t∧szt L t≤s.size:=by
 have h1:=z0w L ht;rw[z2c (n:=n) (by rw[G.toks.leng];exact qR),G.z] at h1;exact⟨z0w L hf,h1⟩
theorem z2B(G:Gv W A n c L s){f t:Nat}(hf:f≤t)(ht:t≤n)(hN:N≤1000000)(C:Cs W lb sb mb tb m A n c L s N w):
 Calls Tryz.prog 40 #[.agg #[.int .i64 f,.int .i64 t,.int .i64 (szt L f:Nat),.int .i64 (szt L t:Nat)],.pointer (some ⟨mb,0,none⟩),.pointer (some ⟨lb,0,none⟩),.pointer (some ⟨sb,0,none⟩)] w fun e w'=>
  e=.returned (.agg #[.int .u8 ((kp L s f t).1:Nat),.int .i64 ((kp L s f t).2:Nat)])∧∃N',N'≤N+1∧Cs W lb sb mb tb m A n c L s N' w'∧Kept (One m) w w':=by
 obtain⟨hxy,hys⟩:=G.sub hf ht;have hs7:=G.hs;have hn1:=G.hn;have hnc:=G.nc;have hkq:kq L s f t (szt L f) (szt L t)=kp L s f t:=rfl;have hb1:=(Below.refl w.heap.size w).alloc qR (.cells #[.int .i64 f,.int .i64 t,.int .i64 (szt L f:Nat),.int .i64 (szt L t:Nat)] 96);have hb2:=hb1.alloc hb1.size (.cells #[.int .u8 0,.int .i64 0] 98);have C2:=C.next hb2
 have hlk:=C2.mem.look (a:=f) (b:=t) (c:=szt L f) (d:=szt L t) (by omega) (by omega) (by omega) (by omega);have k1:=(Hb.new w 96 #[.int .i64 f,.int .i64 t,.int .i64 (szt L f:Nat),.int .i64 (szt L t:Nat)]).alloc (.cells #[.int .u8 0,.int .i64 0] 98);have k2:=Hb.new (w.alloc (.cells #[.int .i64 f,.int .i64 t,.int .i64 (szt L f:Nat),.int .i64 (szt L t:Nat)] 96)) 98 #[.int .u8 0,.int .i64 0];simp only[World.size_alloc] at k2;unfold zcu chv at hlk;rw[hkq] at hlk
 have HChoose:=hid (fun(X:Option Addr) (hX:(if c=f then A else Option.map (fun x=>x.add (f*3)) A)=X) (w':World) (b:Below W.heap.size W w') (cx:Nat)=>(show Calls Tryz.prog 41 #[.slice X (t - f:Nat) cx,.string (s.extract (szt L f) (szt L t))] w' (fun e w2=>e=.returned (.agg #[.int .u8 ((kp L s f t).1:Nat),.int .i64 ((kp L s f t).2:Nat)])∧Below w'.heap.size w' w2) from
  z9o X (t - f) cx (seg L f t) _ w' (G.tabs.keep b) (hX▸(G.toks.below b).sub hnc hf ht) (by omega) (by rw[ByteArray.size_extract];omega) (fun x hx=>G.may x (z18 hx))))
 have hkb:(kp L s f t).2≤20000000:=zeV (by rw[ByteArray.size_extract];omega) (by rw[z0V (by rw[G.toks.leng];exact ht)];omega) (fun x hx=>G.may x (z18 hx));have hkk:(kp L s f t).1≤2:=z53 _ _
 have HPut:=hid (fun(w':World) (h:Mem w' m N (kq L s))=>(show ∃w2,(Instr.mapUpdate 94 (.map (some m)) (.agg #[.int .i64 f,.int .i64 t,.int .i64 (szt L f:Nat),.int .i64 (szt L t:Nat)]) (.agg #[.int .u8 ((kp L s f t).1:Nat),.int .i64 ((kp L s f t).2:Nat)])).run Tryz.prog w'=.ok () w2∧Mem w2 m (N+1) (kq L s)∧w'.grownBy w2 (some m) from
  h.put (a:=f) (b:=t) (c:=szt L f) (d:=szt L t) (by omega) (by omega) (by omega) (by omega) (by unfold maxLen;omega)))
 obtain⟨x,hx⟩:∃x,szt L f=x:=⟨_,rfl⟩
 obtain⟨y,hy⟩:∃y,szt L t=y:=⟨_,rfl⟩
 obtain⟨q1,hq1⟩:∃q1,(kp L s f t).1=q1:=⟨_,rfl⟩
 obtain⟨q2,hq2⟩:∃q2,(kp L s f t).2=q2:=⟨_,rfl⟩
 rw[hx,hy] at hxy hlk HChoose HPut k1 k2 C2 hb2 ⊢;rw[hy] at hys;rw[hq1,hq2] at HChoose HPut hlk ⊢;rw[hq1] at hkk;rw[hq2] at hkb;obtain⟨c1,c2,c3,c4⟩:=(show _∧_∧_∧_ from⟨C2.cl,C2.cs,C2.cp,C2.ct⟩)
 have HC:=hid C;have HC2:=hid C2;have HB2:=hid hb2;have HK1:=hid k1;have HK2:=hid k2;clear hb1 k1 k2 C2 hb2 hkq C G hx hy hq1 hq2;have k3:=Hb.new (w.alloc (.cells #[.int .i64 f,.int .i64 t,.int .i64 x,.int .i64 y] 96)) 98 #[.int .u8 q1,.int .i64 q2];simp only[World.size_alloc] at k3;have K3:=hid k3;clear k3;rcases hlk with hlk|hlk
 · have HE:=hid (show ∀w',Below w.heap.size w w'→∃N',N'≤N+1∧Cs W lb sb mb tb m A n c L s N' w'∧Kept (One m) w w' from fun w' b=>⟨N,Nat.le_succ _,HC.out.next b,(Kept.of_below b).none _⟩)
   go_enter Tryz.func40,Tryz.ntmps40;go_wp2_with fail;refine bodyPost_ret (v:=.agg #[.int .u8 q1,.int .i64 q2]) (results_cell_row rfl _ _ (w.heap.size+1) _ _ _ _ rfl (K3.out.alloc (.cells #[.int .u8 q1,.int .i64 q2] 98)).row Tryz.underlying98 rfl z5k) rfl ⟨rfl,HE.out _ ((((Below.refl w.heap.size w).alloc qR _).alloc (by simp) _).alloc (by simp;omega) _)⟩
 · go_enter Tryz.func40,Tryz.ntmps40
   go_upto_region 3 with fail
   have hb0:=(Below.refl ((w.alloc (.cells #[.int .i64 f,.int .i64 t,.int .i64 x,.int .i64 y] 96)).alloc (.cells #[.int .u8 0,.int .i64 0] 98)).heap.size ((w.alloc (.cells #[.int .i64 f,.int .i64 t,.int .i64 x,.int .i64 y] 96)).alloc (.cells #[.int .u8 0,.int .i64 0] 98))).alloc qR (.cells #[.int .u8 0,.int .i64 0] 98);have g0:=Hb.new ((w.alloc (.cells #[.int .i64 f,.int .i64 t,.int .i64 x,.int .i64 y] 96)).alloc (.cells #[.int .u8 0,.int .i64 0] 98)) 98 #[.int .u8 0,.int .i64 0];simp only[World.size_alloc] at g0;have hc3:=HC2.out.next hb0
   have hk1:=HK1.out.next hb0
   have hk2:=HK2.out.next hb0
   have hb3:=HB2.out.trans (hb0.mono HB2.out.size);clear hb0 HC2 HK1 HK2 HB2 c1 c2 c3 c4 hlk;generalize ((w.alloc (.cells #[.int .i64 f,.int .i64 t,.int .i64 x,.int .i64 y] 96)).alloc (.cells #[.int .u8 0,.int .i64 0] 98)).alloc (.cells #[.int .u8 0,.int .i64 0] 98)=w3 at hc3 hk1 hk2 hb3 g0 ⊢;obtain⟨p0,p1,p2,p3⟩:=hk1.cells4;have cl:=hc3.cl;have cs:=hc3.cs;have ll:=qB cl;have ls:=qB cs;have lp:=hk1.lt;have HC3:=hid hc3;have HK1:=hid hk1;have HK2:=hid hk2;have HG0:=hid g0;have HB3:=hid hb3;obtain⟨X,hX⟩:∃X,(if c=f then A else Option.map (fun x=>x.add (f*3)) A)=X:=⟨_,rfl⟩
   have HCh:=hid (HChoose.out X hX);obtain⟨TX,hTX⟩:∃TX,s.extract x y=TX:=⟨_,rfl⟩
   rw[hTX] at HCh;have hfc:f≤c:=by omega
   have htc:t≤c:=by omega
   have hlg:=g0.lt;have nl:lb≠w.heap.size+1+1:=fun e=>by have h9:=qB HC.out.cl;have h10:lb<w.heap.size:=h9;omega
   have ns:sb≠w.heap.size+1+1:=fun e=>by have h9:=qB HC.out.cs;have h10:sb<w.heap.size:=h9;omega
   clear hc3 hk1 hk2 hb3 g0 HChoose;have hS3:=And.intro cl (And.intro cs (And.intro p0 (And.intro p1 (And.intro p2 p3))))
   go_region_held3 (fun w':World=>w'.cell? ⟨lb,0,none⟩=some (.slice A n c)∧w'.cell? ⟨sb,0,none⟩=some (.string s)∧w'.cell? ⟨w.heap.size,0,none⟩=some (.int .i64 f)∧w'.cell? ⟨w.heap.size,1,none⟩=some (.int .i64 t)∧w'.cell? ⟨w.heap.size,2,none⟩=some (.int .i64 x)∧w'.cell? ⟨w.heap.size,3,none⟩=some (.int .i64 y)) (first|exact hS3|exact l3|exact l4)
    (first|(go_at_call 41;(with_reducible refine(HCh.out _ (by first|exact HC3.out.b|exact HC3.out.b.drew) _).mono ?_);rintro e w4 ⟨rfl,b4'⟩;have b4:Below w3.heap.size w3 w4:=(by first|exact b4'|exact(Below.refl _ w3).drew.trans b4');clear b4';have l3:=And.intro ((b4.cell (p:=⟨lb,0,none⟩) ll).trans cl) (And.intro ((b4.cell (p:=⟨sb,0,none⟩) ls).trans cs) (HK1.out.next b4).cells4);have g4:=HG0.out.next b4;obtain⟨e0,e1⟩:=g4.cells2;have f0:=g4.free 0;have f1:=g4.free 1;have G4:=hid (g4.put2 (.int .u8 q1) (.int .i64 q2));have hk9:=((Kept.refl (One (w.heap.size+1+1)) w4).setCell ⟨w.heap.size+1+1,0,none⟩ (.inl rfl) (.int .u8 q1)).setCell ⟨w.heap.size+1+1,1,none⟩ (.inl rfl) (.int .i64 q2);have l4:=And.intro (hk9.cell l3.1 nl) (And.intro (hk9.cell l3.2.1 ns) ((HK1.out.next b4).kept hk9 (fun e=>by have:w.heap.size=w.heap.size+1+1:=e;omega)).cells4);have HK9:=hid hk9;have B4:=hid b4;clear hk9 g4 b4))
   rename_i hHeld
   have hB5:=((HB3.out.trans (B4.out.mono HB3.out.size)).setCell (p:=⟨w.heap.size+1+1,0,none⟩) (by show w.heap.size≤w.heap.size+1+1;omega) (.int .u8 q1)).setCell (p:=⟨w.heap.size+1+1,1,none⟩) (by show w.heap.size≤w.heap.size+1+1;omega) (.int .i64 q2);have hG5:=G4.out;have hK5:=(HK1.out.next B4.out).kept HK9.out (fun e=>by have:w.heap.size=w.heap.size+1+1:=e;omega);have hR5:=(HK2.out.next B4.out).kept HK9.out (fun e=>by have:w.heap.size+1=w.heap.size+1+1:=e;omega);clear hHeld l3 l4 e0 e1 f0 f1 G4 HK9 B4 hS3 p0 p1 p2 p3 cl cs HK1 HK2 HG0 HB3 HCh HC3;generalize (w4.setCell ⟨w.heap.size+1+1,0,none⟩ (.int .u8 q1)).setCell ⟨w.heap.size+1+1,1,none⟩ (.int .i64 q2)=w5 at hB5 hG5 hK5 hR5 ⊢;have hC5:=HC.out.next hB5
   have cp:=hC5.cp;obtain⟨p0,p1,p2,p3⟩:=hK5.cells4;obtain⟨e0,e1⟩:=hG5.cells2;obtain⟨w6,hr,hm6,g6⟩:=HPut.out w5 hC5.mem;have hml:=HC.out.mem.lt;have hG6:=hG5.of (w':=w6) (g6.block _ hG5.lt (fun e=>by injection e with e;omega));have hR6:=hR5.of (w':=w6) (g6.block _ hR5.lt (fun e=>by injection e with e;omega));obtain⟨s0,s1⟩:=hG6.cells2;obtain⟨s2,s3⟩:=hR6.cells2;have f2:=hR6.free 0;have f3:=hR6.free 1;have HR6:=hid hR6;have HM6:=hid hm6;have HK6:=hid (((Kept.of_below hB5).none (One m)).grown g6 (fun k e=> .inl (by cases e;rfl)));clear hB5 hG5 hK5 hR5 hC5 hm6 g6 hG6 hR6 HPut;go_wp2_with fail;have hm7:Mem ((w6.setCell ⟨w.heap.size+1,0,none⟩ (.int .u8 q1)).setCell ⟨w.heap.size+1,1,none⟩ (.int .i64 q2)) m (N+1) (kq L s):=HM6.out.of ((Below.heap_setCell _ _ _ _ (by show m≠w.heap.size+1;omega)).trans (Below.heap_setCell _ _ _ _ (by show m≠w.heap.size+1;omega)));have hk7:=(HK6.out.setCell ⟨w.heap.size+1,0,none⟩ (.inr (by show w.heap.size≤w.heap.size+1;omega)) (.int .u8 q1)).setCell ⟨w.heap.size+1,1,none⟩ (.inr (by show w.heap.size≤w.heap.size+1;omega)) (.int .i64 q2);refine bodyPost_ret (v:=.agg #[.int .u8 q1,.int .i64 q2]) (results_cell_row rfl _ _ (w.heap.size+1) _ _ _ _ rfl (HR6.out.put2 _ _).row Tryz.underlying98 rfl z5k) rfl ⟨rfl,N+1,qR,HC.out.step hk7 hm7,hk7⟩
end
theorem zg8:(Tryz.prog.info? 96).map (fun i=>i.size)=some 4:=by kernel_rfl
section
variable {W w w':World} {lb sb mb tb m:Nat} {A:Option Addr} {n c:Nat} {L:List Tk} {s:ByteArray} {N N':Nat}
theorem z4Z(G:Gv W A n c L s){f t:Nat}(ht:t≤n):(kp L s f t).2≤20000000:=
 zeV (by rw[ByteArray.size_extract];have:=G.hs;omega) (by rw[z0V (by rw[G.toks.leng];exact ht)];have:=G.hn;omega) (fun x hx=>G.may x (z18 hx))
theorem zdR(G:Gv W A n c L s){f a b:Nat}(hf:f≤a)(hab:a≤b)(hb:b≤n)(hN:N≤900000)(C:Cs W lb sb mb tb m A n c L s N w):
 Calls Tryz.prog 42 #[.agg #[.int .i64 f,.int .i64 a,.int .i64 (szt L f:Nat),.int .i64 (szt L a:Nat)],.agg #[.int .i64 a,.int .i64 b,.int .i64 (szt L a:Nat),.int .i64 (szt L b:Nat)],.pointer (some ⟨tb,0,none⟩)] w fun e w'=>
  e=.returned (.tuple #[.agg #[.int .i64 f,.int .i64 b,.int .i64 (szt L f:Nat),.int .i64 (szt L b:Nat)],.bool (decide ((kp L s f b).2≤(kp L s f a).2+(kp L s a b).2))])∧∃N',N'≤N+3∧Cs W lb sb mb tb m A n c L s N' w'∧Kept (One m) w w':=by
 have T1:=hid (fun(w:World) (C:Cs W lb sb mb tb m A n c L s N w)=>z2B G (show f≤b by omega) hb (by omega) C);have T2:=hid (fun(N:Nat) (hN:N≤1000000) (w:World) (C:Cs W lb sb mb tb m A n c L s N w)=>z2B G hf (by omega) hN C);have T3:=hid (fun(N:Nat) (hN:N≤1000000) (w:World) (C:Cs W lb sb mb tb m A n c L s N w)=>z2B G hab hb hN C);have v1:=z4Z G (f:=f) hb;have v2:=z4Z G (f:=f) (show a≤n by omega);have v3:=z4Z G (f:=a) hb;obtain⟨x,hx⟩:∃x,szt L f=x:=⟨_,rfl⟩
 obtain⟨y,hy⟩:∃y,szt L a=y:=⟨_,rfl⟩
 obtain⟨z,hz⟩:∃z,szt L b=z:=⟨_,rfl⟩
 obtain⟨p1,hp1⟩:∃p1,(kp L s f b).1=p1:=⟨_,rfl⟩
 obtain⟨p2,hp2⟩:∃p2,(kp L s f b).2=p2:=⟨_,rfl⟩
 obtain⟨q1,hq1⟩:∃q1,(kp L s f a).1=q1:=⟨_,rfl⟩
 obtain⟨q2,hq2⟩:∃q2,(kp L s f a).2=q2:=⟨_,rfl⟩
 obtain⟨r1,hr1⟩:∃r1,(kp L s a b).1=r1:=⟨_,rfl⟩
 obtain⟨r2,hr2⟩:∃r2,(kp L s a b).2=r2:=⟨_,rfl⟩
 rw[hx,hz,hp1,hp2] at T1;rw[hx,hy,hq1,hq2] at T2;rw[hy,hz,hr1,hr2] at T3;rw[hx,hy,hz,hp2,hq2,hr2];rw[hp2] at v1;rw[hq2] at v2;rw[hr2] at v3;obtain⟨D,hD⟩:∃D,decide (p2≤q2+r2)=D:=⟨_,rfl⟩
 have hD1:decide ((p2:Int)≤(q2:Int)+(r2:Int))=D:=by rw[←hD,decide_eq_decide];omega
 have hw1:IntKind.i64.wrap ((q2:Int)+(r2:Int))=(q2:Int)+(r2:Int):=by rw[IntKind.wrap_i64];omega
 rw[hD];have HC:=hid C;have HN:=hid hN;clear hx hy hz hp1 hp2 hq1 hq2 hr1 hr2 hD C hN G hf hab hb;go_enter Tryz.func42,Tryz.ntmps42
 go_upto_region 2 with fail
 have hb1:=(Below.refl w.heap.size w).alloc qR (.cells #[.int .i64 f,.int .i64 a,.int .i64 x,.int .i64 y] 96);have hb2:=hb1.alloc hb1.size (.cells #[.int .i64 a,.int .i64 b,.int .i64 y,.int .i64 z] 96);have hb3:=hb2.alloc hb2.size (.cells #[.int .i64 0,.int .i64 0,.int .i64 0,.int .i64 0] 96);have hb4:=hb3.alloc hb3.size (.cells #[.int .i64 f,.int .i64 b,.int .i64 x,.int .i64 z] 96);have k1:=(((Hb.new w 96 #[.int .i64 f,.int .i64 a,.int .i64 x,.int .i64 y]).alloc (.cells #[.int .i64 a,.int .i64 b,.int .i64 y,.int .i64 z] 96)).alloc (.cells #[.int .i64 0,.int .i64 0,.int .i64 0,.int .i64 0] 96)).alloc (.cells #[.int .i64 f,.int .i64 b,.int .i64 x,.int .i64 z] 96);have k2:=((Hb.new (w.alloc (.cells #[.int .i64 f,.int .i64 a,.int .i64 x,.int .i64 y] 96)) 96 #[.int .i64 a,.int .i64 b,.int .i64 y,.int .i64 z]).alloc (.cells #[.int .i64 0,.int .i64 0,.int .i64 0,.int .i64 0] 96)).alloc (.cells #[.int .i64 f,.int .i64 b,.int .i64 x,.int .i64 z] 96);have k3:=(Hb.new ((w.alloc (.cells #[.int .i64 f,.int .i64 a,.int .i64 x,.int .i64 y] 96)).alloc (.cells #[.int .i64 a,.int .i64 b,.int .i64 y,.int .i64 z] 96)) 96 #[.int .i64 0,.int .i64 0,.int .i64 0,.int .i64 0]).alloc (.cells #[.int .i64 f,.int .i64 b,.int .i64 x,.int .i64 z] 96);have k4:=Hb.new (((w.alloc (.cells #[.int .i64 f,.int .i64 a,.int .i64 x,.int .i64 y] 96)).alloc (.cells #[.int .i64 a,.int .i64 b,.int .i64 y,.int .i64 z] 96)).alloc (.cells #[.int .i64 0,.int .i64 0,.int .i64 0,.int .i64 0] 96)) 96 #[.int .i64 f,.int .i64 b,.int .i64 x,.int .i64 z];simp only[World.size_alloc] at k2 k3 k4;have c4:=HC.out.next hb4
 clear hb1 hb2 hb3;generalize ((((w.alloc (.cells #[.int .i64 f,.int .i64 a,.int .i64 x,.int .i64 y] 96)).alloc (.cells #[.int .i64 a,.int .i64 b,.int .i64 y,.int .i64 z] 96)).alloc (.cells #[.int .i64 0,.int .i64 0,.int .i64 0,.int .i64 0] 96)).alloc (.cells #[.int .i64 f,.int .i64 b,.int .i64 x,.int .i64 z] 96))=w4 at hb4 k1 k2 k3 k4 c4 ⊢;have hml:=HC.out.mem.lt;have htl:tb<w.heap.size:=qB HC.out.ct;have HK:=hid (show Hb w4 96 w.heap.size #[.int .i64 f,.int .i64 a,.int .i64 x,.int .i64 y]∧Hb w4 96 (w.heap.size+1) #[.int .i64 a,.int .i64 b,.int .i64 y,.int .i64 z]∧Hb w4 96 (w.heap.size+1+1) #[.int .i64 0,.int .i64 0,.int .i64 0,.int .i64 0]∧Hb w4 96 (w.heap.size+1+1+1) #[.int .i64 f,.int .i64 b,.int .i64 x,.int .i64 z] from⟨k1,k2,k3,k4⟩);have HB4:=hid hb4;have C4:=hid c4
 have HS:=hid (fun(w5:World) (hk:Kept (One m) w4 w5)=>(show w5.cell? ⟨tb,0,none⟩=some (.func (.func 40) #[] #[.pointer (some ⟨mb,0,none⟩),.pointer (some ⟨lb,0,none⟩),.pointer (some ⟨sb,0,none⟩)])∧w5.cell? ⟨w.heap.size,0,none⟩=some (.int .i64 f)∧w5.cell? ⟨w.heap.size,1,none⟩=some (.int .i64 a)∧w5.cell? ⟨w.heap.size,2,none⟩=some (.int .i64 x)∧w5.cell? ⟨w.heap.size,3,none⟩=some (.int .i64 y)∧w5.cell? ⟨w.heap.size+1,0,none⟩=some (.int .i64 a)∧w5.cell? ⟨w.heap.size+1,1,none⟩=some (.int .i64 b)∧w5.cell? ⟨w.heap.size+1,2,none⟩=some (.int .i64 y)∧w5.cell? ⟨w.heap.size+1,3,none⟩=some (.int .i64 z)∧w5.cell? ⟨w.heap.size+1+1+1,0,none⟩=some (.int .i64 f)∧w5.cell? ⟨w.heap.size+1+1+1,1,none⟩=some (.int .i64 b)∧w5.cell? ⟨w.heap.size+1+1+1,2,none⟩=some (.int .i64 x)∧w5.cell? ⟨w.heap.size+1+1+1,3,none⟩=some (.int .i64 z) from by
  have l1:=(HK.out.1.kept hk (fun e=>by have:w.heap.size=m:=e;omega)).cells4;have l2:=(HK.out.2.1.kept hk (fun e=>by have:w.heap.size+1=m:=e;omega)).cells4;have l3:=(HK.out.2.2.2.kept hk (fun e=>by have:w.heap.size+1+1+1=m:=e;omega)).cells4;exact⟨hk.cell C4.out.ct C4.out.nt,l1.1,l1.2.1,l1.2.2.1,l1.2.2.2,l2.1,l2.2.1,l2.2.2.1,l2.2.2.2,l3.1,l3.2.1,l3.2.2.1,l3.2.2.2⟩))
 have HS2:=hid (fun(w5 w6:World) (hk:Kept (One m) w4 w5) (hk2:Kept (One (w.heap.size+1+1)) w5 w6)=>(show w6.cell? ⟨tb,0,none⟩=some (.func (.func 40) #[] #[.pointer (some ⟨mb,0,none⟩),.pointer (some ⟨lb,0,none⟩),.pointer (some ⟨sb,0,none⟩)])∧w6.cell? ⟨w.heap.size,0,none⟩=some (.int .i64 f)∧w6.cell? ⟨w.heap.size,1,none⟩=some (.int .i64 a)∧w6.cell? ⟨w.heap.size,2,none⟩=some (.int .i64 x)∧w6.cell? ⟨w.heap.size,3,none⟩=some (.int .i64 y)∧w6.cell? ⟨w.heap.size+1,0,none⟩=some (.int .i64 a)∧w6.cell? ⟨w.heap.size+1,1,none⟩=some (.int .i64 b)∧w6.cell? ⟨w.heap.size+1,2,none⟩=some (.int .i64 y)∧w6.cell? ⟨w.heap.size+1,3,none⟩=some (.int .i64 z)∧w6.cell? ⟨w.heap.size+1+1+1,0,none⟩=some (.int .i64 f)∧w6.cell? ⟨w.heap.size+1+1+1,1,none⟩=some (.int .i64 b)∧w6.cell? ⟨w.heap.size+1+1+1,2,none⟩=some (.int .i64 x)∧w6.cell? ⟨w.heap.size+1+1+1,3,none⟩=some (.int .i64 z) from by
  have l1:=((HK.out.1.kept hk (fun e=>by have:w.heap.size=m:=e;omega)).kept hk2 (fun e=>by have:w.heap.size=w.heap.size+1+1:=e;omega)).cells4;have l2:=((HK.out.2.1.kept hk (fun e=>by have:w.heap.size+1=m:=e;omega)).kept hk2 (fun e=>by have:w.heap.size+1=w.heap.size+1+1:=e;omega)).cells4;have l3:=((HK.out.2.2.2.kept hk (fun e=>by have:w.heap.size+1+1+1=m:=e;omega)).kept hk2 (fun e=>by have:w.heap.size+1+1+1=w.heap.size+1+1:=e;omega)).cells4;exact⟨hk2.cell (hk.cell C4.out.ct C4.out.nt) (fun e=>by have:tb=w.heap.size+1+1:=e;omega),l1.1,l1.2.1,l1.2.2.1,l1.2.2.2,l2.1,l2.2.1,l2.2.2.1,l2.2.2.2,l3.1,l3.2.1,l3.2.2.1,l3.2.2.2⟩))
 have s4:=HS.out w4 (Kept.refl _ _);have hX5:=hid (fun(w5 w6:World) (h:Kept (One m) w4 w5) (k:Kept (One m) w5 w6)=>h.trans k (fun _ g=> .inl g));clear hb4 k1 k2 k3 k4 c4;have hF1:=zc5
 go_region_held3 (fun w':World=>w'.cell? ⟨tb,0,none⟩=some (.func (.func 40) #[] #[.pointer (some ⟨mb,0,none⟩),.pointer (some ⟨lb,0,none⟩),.pointer (some ⟨sb,0,none⟩)])∧w'.cell? ⟨w.heap.size,0,none⟩=some (.int .i64 f)∧w'.cell? ⟨w.heap.size,1,none⟩=some (.int .i64 a)∧w'.cell? ⟨w.heap.size,2,none⟩=some (.int .i64 x)∧w'.cell? ⟨w.heap.size,3,none⟩=some (.int .i64 y)∧w'.cell? ⟨w.heap.size+1,0,none⟩=some (.int .i64 a)∧w'.cell? ⟨w.heap.size+1,1,none⟩=some (.int .i64 b)∧w'.cell? ⟨w.heap.size+1,2,none⟩=some (.int .i64 y)∧w'.cell? ⟨w.heap.size+1,3,none⟩=some (.int .i64 z)∧w'.cell? ⟨w.heap.size+1+1+1,0,none⟩=some (.int .i64 f)∧w'.cell? ⟨w.heap.size+1+1+1,1,none⟩=some (.int .i64 b)∧w'.cell? ⟨w.heap.size+1+1+1,2,none⟩=some (.int .i64 x)∧w'.cell? ⟨w.heap.size+1+1+1,3,none⟩=some (.int .i64 z)) (first|exact s4|exact s5|exact s6|exact s7|exact s8)
  (first
   |(go_at_call 40;(with_reducible refine(T1.out _ (by first|exact C4.out|exact C4.out.next (Below.refl _ _).drew)).mono ?_);rintro e w5 ⟨rfl,N5,hN5,c5,k5'⟩;have k5:Kept (One m) w4 w5:=(by first|exact k5'|exact(Kept.refl _ w4).drew.trans k5' (fun _ g=> .inl g));have s5:=HS.out w5 k5;have C5:=hid c5;have K5:=hid k5;have HN5:=hid (show N5≤900001 by have:=HN.out;omega);have HM5:=hid hN5;clear k5' k5 c5 hN5)
   |(go_at_call 40;(with_reducible refine(T2.out N5 (by have:=HN5.out;omega) _ (by first|exact C5.out|exact C5.out.next (Below.refl _ _).drew)).mono ?_);rintro e w6 ⟨rfl,N6,hN6,c6,k6'⟩;have k6:Kept (One m) w4 w6:=(by first|exact hX5.out _ _ K5.out k6'|exact hX5.out _ _ K5.out.drew k6');have s6:=HS.out w6 k6;have C6:=hid c6;have K6:=hid k6;have HN6:=hid (show N6≤900002 by have:=HN5.out;omega);have HM6:=hid hN6;clear k6' k6 c6 hN6)
   |(go_at_call 40;(with_reducible refine(T3.out N6 (by have:=HN6.out;omega) _ (by first|exact C6.out|exact C6.out.next (Below.refl _ _).drew)).mono ?_);rintro e w7 ⟨rfl,N7,hN7,c7,k7'⟩;have k7:Kept (One m) w4 w7:=(by first|exact hX5.out _ _ K6.out k7'|exact hX5.out _ _ K6.out.drew k7');have s7:=HS.out w7 k7;have r7:=HK.out.2.2.1.kept k7 (fun e=>by have:w.heap.size+1+1=m:=e;omega);obtain⟨e0,e1,e2,e3⟩:=r7.cells4;have f0:=r7.free 0;have f1:=r7.free 1;have f2:=r7.free 2;have f3:=r7.free 3;have R7:=hid r7;have hk8:=((((Kept.refl (One (w.heap.size+1+1)) w7).setCell ⟨w.heap.size+1+1,0,none⟩ (.inl rfl) (.int .i64 f)).setCell ⟨w.heap.size+1+1,1,none⟩ (.inl rfl) (.int .i64 b)).setCell ⟨w.heap.size+1+1,2,none⟩ (.inl rfl) (.int .i64 x)).setCell ⟨w.heap.size+1+1,3,none⟩ (.inl rfl) (.int .i64 z);have s8:=HS2.out _ _ k7 hk8;have C7:=hid c7;have K7:=hid k7;have HM7:=hid hN7;clear k7' k7 c7 hN7 hk8 r7))
 go_wp2_with fail;have hk9:=((((((Kept.of_below HB4.out).none (One m)).trans K7.out (fun _ g=> .inl g)).setCell ⟨w.heap.size+1+1,0,none⟩ (.inr (by show w.heap.size≤w.heap.size+1+1;omega)) (.int .i64 f)).setCell ⟨w.heap.size+1+1,1,none⟩ (.inr (by show w.heap.size≤w.heap.size+1+1;omega)) (.int .i64 b)).setCell ⟨w.heap.size+1+1,2,none⟩ (.inr (by show w.heap.size≤w.heap.size+1+1;omega)) (.int .i64 x)).setCell ⟨w.heap.size+1+1,3,none⟩ (.inr (by show w.heap.size≤w.heap.size+1+1;omega)) (.int .i64 z);have hne:∀i,(⟨w.heap.size+1+1,i,none⟩:Addr).block≠m:=fun i e=>by have:w.heap.size+1+1=m:=e;omega
 have hm9:Mem ((((w7.setCell ⟨w.heap.size+1+1,0,none⟩ (.int .i64 f)).setCell ⟨w.heap.size+1+1,1,none⟩ (.int .i64 b)).setCell ⟨w.heap.size+1+1,2,none⟩ (.int .i64 x)).setCell ⟨w.heap.size+1+1,3,none⟩ (.int .i64 z)) m N7 (kq L s):=
  C7.out.mem.of ((Below.heap_setCell _ _ _ _ (fun e=>hne _ e.symm)).trans ((Below.heap_setCell _ _ _ _ (fun e=>hne _ e.symm)).trans ((Below.heap_setCell _ _ _ _ (fun e=>hne _ e.symm)).trans (Below.heap_setCell _ _ _ _ (fun e=>hne _ e.symm)))))
 refine bodyPost_ret (v:=.tuple #[.agg #[.int .i64 f,.int .i64 b,.int .i64 x,.int .i64 z],.bool D]) (z0f (p:=5) (u:=6) (ty:= 96) rfl _ _ (w.heap.size+1+1) _ _ _ _ rfl (R7.out.put4 _ _ _ _).row Tryz.underlying96 rfl zg8) rfl ⟨rfl,N7,by have:=HM5.out;have:=HM6.out;have:=HM7.out;omega,HC.out.step hk9 hm9,hk9⟩
end
section
variable {W w w':World} {lb sb mb tb m:Nat} {A:Option Addr} {n c:Nat} {L:List Tk} {s:ByteArray} {N N':Nat}
def pv4(q:Pie):Array Value:= #[.int .i64 q.f,.int .i64 q.t,.int .i64 q.z,.int .i64 q.k]
theorem z88{w6:World}{N5:Nat}{v:Value}{l:List Pie}{x1 x2 x3 x4:Value}(C0:Cs W lb sb mb tb m A n c L s N w)(hk:Kept (One m) w w6)(hm:Mem w6 m N5 (kq L s))(o:z1e (w.heap.size+1) w6 v l)(h:Hb w6 96 w.heap.size #[x1,x2,x3,x4])(y1 y2 y3 y4:Value):
 z1e (w.heap.size+1) ((((w6.setCell ⟨w.heap.size,0,none⟩ y1).setCell ⟨w.heap.size,1,none⟩ y2).setCell ⟨w.heap.size,2,none⟩ y3).setCell ⟨w.heap.size,3,none⟩ y4) v l∧Hb ((((w6.setCell ⟨w.heap.size,0,none⟩ y1).setCell ⟨w.heap.size,1,none⟩ y2).setCell ⟨w.heap.size,2,none⟩ y3).setCell ⟨w.heap.size,3,none⟩ y4) 96 w.heap.size #[y1,y2,y3,y4]
 ∧Cs W lb sb mb tb m A n c L s N5 ((((w6.setCell ⟨w.heap.size,0,none⟩ y1).setCell ⟨w.heap.size,1,none⟩ y2).setCell ⟨w.heap.size,2,none⟩ y3).setCell ⟨w.heap.size,3,none⟩ y4)∧Kept (One m) w ((((w6.setCell ⟨w.heap.size,0,none⟩ y1).setCell ⟨w.heap.size,1,none⟩ y2).setCell ⟨w.heap.size,2,none⟩ y3).setCell ⟨w.heap.size,3,none⟩ y4):=by
 have hml:=C0.mem.lt;have hk9:=(((hk.setCell ⟨w.heap.size,0,none⟩ (.inr qR) y1).setCell ⟨w.heap.size,1,none⟩ (.inr qR) y2).setCell ⟨w.heap.size,2,none⟩ (.inr qR) y3).setCell ⟨w.heap.size,3,none⟩ (.inr qR) y4
 have hh:∀k,k≠w.heap.size→((((w6.setCell ⟨w.heap.size,0,none⟩ y1).setCell ⟨w.heap.size,1,none⟩ y2).setCell ⟨w.heap.size,2,none⟩ y3).setCell ⟨w.heap.size,3,none⟩ y4).heap[k]? =w6.heap[k]? :=fun k hk=>
  (Below.heap_setCell _ _ _ _ hk).trans ((Below.heap_setCell _ _ _ _ hk).trans ((Below.heap_setCell _ _ _ _ hk).trans (Below.heap_setCell _ _ _ _ hk)))
 exact⟨o.at fun g hg=>hh g (by have:=(o.lt g hg).1;omega),h.put4 _ _ _ _,C0.step hk9 (hm.of (hh m (by omega))),hk9⟩
theorem z9c(G:Gv W A n c L s){B:Nat}{v:Value}(hO:z1e B w v (z91 L n (cnk n+1)))(hB:m<B)(hN:N≤100000)(C:Cs W lb sb mb tb m A n c L s N w):
 Calls Tryz.prog 43 #[v,.func (.func 42) #[] #[.pointer (some ⟨tb,0,none⟩)]] w fun e w'=>
  ∃v',e=.returned v'∧z1e w.heap.size w' v' ((pts L s).map (z3K L))∧∃N',N'≤N+3*cnk n∧Cs W lb sb mb tb m A n c L s N' w'∧Kept (One m) w w':=by
 have hl:=G.toks.leng;have hn:=G.hn;have hcn:cnk n≤29:=by unfold cnk;omega
 obtain⟨g,c1,rfl,hc1⟩:=hO.form (by rw[z0D];omega);rw[z0D] at hO hc1 ⊢;have hgl:=hO.lt g rfl;have HJ:=hid (fun(f a b:Nat) (hf:f≤a) (hab:a≤b) (hb:b≤n) (N:Nat) (hN:N≤900000) (w:World) (C:Cs W lb sb mb tb m A n c L s N w)=>zdR G hf hab hb hN C);have HCl:=hid (fun(i:Nat) (hi:i<cnk n+1)=>hO.cell (z0D L n _) (zaH L n hi));have HO:=hid hO;have HC:=hid C;have hp:pts L s=prt (kp L s) (cut n) (cnk n):=by unfold pts;rw[hl]
 have HP:=hid hp;obtain⟨KP,hKP⟩:∃KP,kp L s=KP:=⟨_,rfl⟩
 obtain⟨x0,x1,x2,x3⟩:=hO.cell (i:=0) (z0D L n _) (zaH L n (by omega));simp only[z3K,Nat.zero_mul,Nat.zero_add,z1s,z1Q] at x0 x1 x2 x3;obtain⟨b0,hb0⟩:∃b0,cut n 1=b0:=⟨_,rfl⟩
 obtain⟨y0,hy0⟩:∃y0,szt L b0=y0:=⟨_,rfl⟩
 rw[hb0] at x1 x3;rw[hy0] at x3;obtain⟨M,hM⟩:∃M,cnk n=M:=⟨_,rfl⟩
 rw[hM] at hO hc1 hcn ⊢;obtain⟨X,hX⟩:∃X,(if c1=1 then some (⟨g,0,none⟩:Addr) else some ⟨g,4,none⟩)=X:=⟨_,rfl⟩
 have h1c:1≤c1:=by omega
 have hgs:=hgl.2;clear hO C hp;go_enter Tryz.func43,Tryz.ntmps43;go_wp2_with fail;have HXc:=hid (show 0<M→X=some ⟨g,4,none⟩ from fun h=>by rw[←hX,if_neg (by omega)]);have hml:=HC.out.mem.lt;have hb1:=(Below.refl w.heap.size w).alloc qR (.cells #[.int .i64 0,.int .i64 b0,.int .i64 0,.int .i64 y0] 96);have HC1:=hid (HC.out.next hb1);have HK1:=hid ((Kept.of_below hb1).none (One m));have HH1:=hid (Hb.new w 96 #[.int .i64 0,.int .i64 b0,.int .i64 0,.int .i64 y0]);generalize w.alloc (.cells #[.int .i64 0,.int .i64 b0,.int .i64 0,.int .i64 y0] 96)=w1 at HC1 HK1 HH1 ⊢;clear hb1 hX x0 x1 x2 x3
 go_loopw [5,17] (fun v i wr=> ∃j N':Nat,j≤M∧i=.int .i64 j∧z1e (w.heap.size+1) wr v ((pst KP (cut n) j).1.map (z3K L))∧Hb wr 96 w.heap.size (pv4 (z3K L (pst KP (cut n) j).2))∧N'≤N+3*j∧Cs W lb sb mb tb m A n c L s N' wr∧Kept (One m) w wr) (fun _ i _=>M - (intOf i).toNat)
 case atStart=>
  refine⟨0,N,qZ,rfl,z1e.nil _ _,?_,qR,HC1.out,HK1.out⟩;show Hb w1 96 w.heap.size (pv4 (z3K L (cut n 0,cut n 1)))
  unfold pv4 z3K;simp only[z1s,z1Q,hb0,hy0];exact HH1.out
 case round=>
  obtain⟨j,N1,hj,rfl,hO,hH,hN1,hC,hK⟩:=hrel;have HOw:=hid hO;have HCw:=hid hC;have HKw:=hid hK;obtain⟨f,hf⟩:∃f,(pst KP (cut n) j).2.1=f:=⟨_,rfl⟩
  obtain⟨a,ha⟩:∃a,cut n (j+1)=a:=⟨_,rfl⟩
  have hto:=z37 KP (cut n) j;rw[ha] at hto;have h2:(pst KP (cut n) j).2=(f,a):=by rw[←hf,←hto]
  have hfa:f≤a:=by
   have h:=(z4L KP (cut n) (z1b n) j).2;have h':=z1b n j;omega
  obtain⟨A1,c2,rfl⟩:=hO.form';rw[h2] at hH;obtain⟨u,hu⟩:∃u,szt L f=u:=⟨_,rfl⟩
  obtain⟨y,hy⟩:∃y,szt L a=y:=⟨_,rfl⟩
  have hH:Hb wr 96 w.heap.size #[.int .i64 f,.int .i64 a,.int .i64 u,.int .i64 y]:=by
   rw[←hu,←hy];exact hH
  have HHw:=hid hH;obtain⟨h0,h1,h3,h4⟩:=hH.cells4;have hHl:=hH.lt;have HN1:=hid hN1;obtain⟨DL,hDL⟩:∃DL,(pst KP (cut n) j).1.map (z3K L)=DL:=⟨_,rfl⟩
  have hDl:DL.length≤100:=by
   rw[←hDL,List.length_map];have:=z0Z KP (cut n) j;unfold prt at this;rw[qA] at this;simp only[qC,List.length_nil] at this;omega
  rw[hDL] at HOw ⊢;clear hO hH hC hK;by_cases hlt:j<M
  · have d1:decide ((j:Int)<(M:Int))=true:=q9T (by omega)
    have d1':decide (j<M)=true:=q9T hlt;obtain⟨b,hb⟩:∃b,cut n (j+1+1)=b:=⟨_,rfl⟩
    have hab:a≤b:=by rw[←ha,←hb];exact z1b n (j+1)
    have hbn:b≤n:=by rw[←hb];unfold cut;omega
    have hXe:=HXc.out (by omega);subst hXe;obtain⟨n0,n1,n2,n3⟩:=HCl.out (j+1) (by omega);simp only[z3K,ha,hb,hy] at n0 n1 n2 n3;rw[show(j+1)*4=4+j*4 by omega] at n0 n1 n2 n3;have n0:=HKw.out.cell n0 (fun e=>by have:g=m:=e;omega);have n1:=HKw.out.cell n1 (fun e=>by have:g=m:=e;omega);have n2:=HKw.out.cell n2 (fun e=>by have:g=m:=e;omega);have n3:=HKw.out.cell n3 (fun e=>by have:g=m:=e;omega);obtain⟨z,hz⟩:∃z,szt L b=z:=⟨_,rfl⟩
    rw[hz] at n3;have hnx:=(Below.refl wr.heap.size wr).alloc qR (.cells #[.int .i64 a,.int .i64 b,.int .i64 y,.int .i64 z] 96);have HJo:=hid (HJ.out f a b hfa hab hbn N1 (by have:=HN1.out;omega) _ (HCw.out.next hnx));rw[hu,hy,hz] at HJo;have HHx:=hid (HHw.out.next hnx);have HNx:=hid (Hb.new wr 96 #[.int .i64 a,.int .i64 b,.int .i64 y,.int .i64 z]);have HKx:=hid (HKw.out.trans (Kept.of_below hnx) (fun _ e=>e.elim));have hwl:=HKw.out.size
    have hps:pst KP (cut n) (j+1)=if(KP f b).2≤(KP f a).2+(KP a b).2 then((pst KP (cut n) j).1,(f,b)) else((pst KP (cut n) j).1++[(f,a)],(a,b)):=by
     rw[pst,hf,h2];rw[show cut n (j+2)=b from hb,ha]
    have HPs:=hid hps;have HDL:=hid hDL;have HJM:=hid hlt;have HUZ:=hid (And.intro hu (And.intro hy hz));obtain⟨D,hD⟩:∃D,decide ((kp L s f b).2≤(kp L s f a).2+(kp L s a b).2)=D:=⟨_,rfl⟩
    rw[hD] at HJo;rw[hKP] at hD;clear hnx hps hDL hlt h2 hto hf ha hb hu hy hz;cases D
    · have HD:=hid (of_decide_eq_false hD)
      clear hD;have HO0:=hid (HOw.out.alloc (.cells #[.int .i64 a,.int .i64 b,.int .i64 y,.int .i64 z] 96))
      go_upto_region 9 with(first
       |(go_at_call 42;(with_reducible refine HJo.out.mono ?_);rintro e w5 ⟨rfl,N5,hN5,c5,k5⟩
         <;>(have hH6:=(HHx.out.kept k5 (fun e=>by have:w.heap.size=m:=e;omega)).alloc (.cells #[.int .i64 f,.int .i64 b,.int .i64 u,.int .i64 z] 96);obtain⟨e0,e1,e2,e3⟩:=hH6.cells4;have H6:=hid hH6;have X6:=hid ((HNx.out.kept k5 (fun e=>by have:wr.heap.size=m:=e;omega)).alloc (.cells #[.int .i64 f,.int .i64 b,.int .i64 u,.int .i64 z] 96));have O6:=hid ((HO0.out.at (fun g hg=>k5.block g (HO0.out.lt g hg).2 (fun e=>by have h1:g=m:=e;have h2:=(HO0.out.lt g hg).1;omega))).alloc (.cells #[.int .i64 f,.int .i64 b,.int .i64 u,.int .i64 z] 96));have C6:=hid (c5.next ((Below.refl w5.heap.size w5).alloc qR (.cells #[.int .i64 f,.int .i64 b,.int .i64 u,.int .i64 z] 96)));have K6:=hid ((HKx.out.trans k5 (fun _ e=> .inl e)).alloc (.cells #[.int .i64 f,.int .i64 b,.int .i64 u,.int .i64 z] 96));have HN5:=hid hN5;have hz5:=k5.size;simp only[World.size_alloc] at hz5;clear c5 k5 hN5 hH6))
       |(at_builtin;refine z1M rfl (.tmp 30) (.tmp 32) rfl (w.heap.size+1) _ DL rfl (O6.out.alloc _) (w5.heap.size+1) 1 ⟨f,a,u,y⟩ rfl ⟨by simp,by simp,by simp,by simp⟩ (by omega) (by simp;omega) ?_;intro v7 w7 o7 g7 i7 b7;have O7:=hid o7;have I7:=hid i7;have G7:=hid g7;have B7:=hid b7;clear o7 g7 b7 i7))
      have x7:=(X6.out.alloc (.cells #[.int .i64 f,.int .i64 a,.int .i64 u,.int .i64 y] 96)).of (w':=w7) (G7.out.block _ (by simp;omega) (fun e=>by have:=(HOw.out.lt wr.heap.size e.symm).2;omega));have t7:=((Hb.new w5 96 #[.int .i64 f,.int .i64 b,.int .i64 u,.int .i64 z]).alloc (.cells #[.int .i64 f,.int .i64 a,.int .i64 u,.int .i64 y] 96)).of (w':=w7) (G7.out.block _ (by simp;omega) (fun e=>by have:=(HOw.out.lt w5.heap.size e.symm).2;omega));have h7:=(H6.out.alloc (.cells #[.int .i64 f,.int .i64 a,.int .i64 u,.int .i64 y] 96)).below B7.out (Nat.lt_succ_self _);have k7:Kept (One m) w w7:=(K6.out.alloc (.cells #[.int .i64 f,.int .i64 a,.int .i64 u,.int .i64 y] 96)).grown G7.out (fun k e=> .inr (by have:=(HOw.out.lt k e).1;omega));have m7:=(C6.out.next ((Below.refl _ _).alloc qR (.cells #[.int .i64 f,.int .i64 a,.int .i64 u,.int .i64 y] 96))).mem.of (w':=w7) (B7.out.block m (by omega))
      have no7:∀g,v7.ownBlock=some g→g≠w5.heap.size:=fun g hg=>by
       rcases I7.out g hg with q|q
       · have:=(HOw.out.lt g q).2;omega
       · simp only[World.size_alloc] at q;omega
      have hk8:=((((Kept.refl (One w5.heap.size) w7).setCell ⟨w5.heap.size,0,none⟩ (.inl rfl) (.int .i64 a)).setCell ⟨w5.heap.size,1,none⟩ (.inl rfl) (.int .i64 b)).setCell ⟨w5.heap.size,2,none⟩ (.inl rfl) (.int .i64 y)).setCell ⟨w5.heap.size,3,none⟩ (.inl rfl) (.int .i64 z);have h8:=h7.kept hk8 (fun e=>by have:w.heap.size=w5.heap.size:=e;omega);have t8:=t7.put4 (.int .i64 a) (.int .i64 b) (.int .i64 y) (.int .i64 z);have o8:=O7.out.at (fun g hg=>hk8.block g (O7.out.lt g hg).2 (fun e=>no7 g hg e));have m8:=m7.of (hk8.block m m7.lt (fun e=>by have:m=w5.heap.size:=e;omega));have k8:=k7.trans hk8 (fun j e=> .inr (by have:j=w5.heap.size:=e;omega));obtain⟨x0,x1,x2,x3⟩:=x7.cells4;obtain⟨e0,e1,e2,e3⟩:=t7.cells4;have f0:=t7.free 0;have f1:=t7.free 1;have f2:=t7.free 2;have f3:=t7.free 3;clear x7 t7 h7 k7 m7 no7 X6 H6 O6 C6 K6 O7 G7 B7 I7 hk8
      go_upto_region 10 with fail
      clear x0 x1 x2 x3 e0 e1 e2 e3 f0 f1 f2 f3;generalize (((w7.setCell ⟨w5.heap.size,0,none⟩ (.int .i64 a)).setCell ⟨w5.heap.size,1,none⟩ (.int .i64 b)).setCell ⟨w5.heap.size,2,none⟩ (.int .i64 y)).setCell ⟨w5.heap.size,3,none⟩ (.int .i64 z)=w8 at h8 t8 o8 m8 k8 ⊢;obtain⟨x0,x1,x2,x3⟩:=t8.cells4;obtain⟨e0,e1,e2,e3⟩:=h8.cells4;have f0:=h8.free 0;have f1:=h8.free 1;have f2:=h8.free 2;have f3:=h8.free 3;have HH8:=hid (z88 HC.out k8 m8 o8 h8 (.int .i64 a) (.int .i64 b) (.int .i64 y) (.int .i64 z));clear t8 h8 o8 m8 k8;go_wp2_with fail;obtain⟨r1,r2,r3,r4⟩:=HH8.out;go_roundw
      case rel=>
       refine⟨j+1,N5,HJM.out,by go_num,?_,?_,by have:=HN5.out;have:=HN1.out;omega,r3,r4⟩
       · rw[HPs.out,if_neg HD.out,List.map_append,HDL.out]
         show z1e _ _ _ (DL++[z3K L (f,a)])
         unfold z3K;simp only[HUZ.out.1,HUZ.out.2.1];exact r1
       · rw[HPs.out,if_neg HD.out]
         unfold pv4 z3K;simp only[HUZ.out.2.1,HUZ.out.2.2];exact r2
      case measure=>(have:=HJM.out;simp[intOf];try omega)
    · have HD:=hid (of_decide_eq_true hD)
      clear hD hwl
      go_wp2_with (go_at_call 42;(with_reducible refine HJo.out.mono ?_);rintro e w5 ⟨rfl,N5,hN5,c5,k5⟩
       <;>(have hH5:=HHx.out.kept k5 (fun e=>by have:w.heap.size=m:=e;omega);have hH6:=hH5.alloc (.cells #[.int .i64 f,.int .i64 b,.int .i64 u,.int .i64 z] 96);obtain⟨e0,e1,e2,e3⟩:=hH6.cells4;have f0:=hH6.free 0;have f1:=hH6.free 1;have f2:=hH6.free 2;have f3:=hH6.free 3;have C5:=hid c5;have K5:=hid k5;have HN5:=hid hN5;have H6:=hid hH6;clear c5 k5 hN5 hH5 hH6))
      go_roundw
      case rel=>
       have k7:=((HKx.out.trans K5.out (fun _ e=> .inl e)).alloc (.cells #[.int .i64 f,.int .i64 b,.int .i64 u,.int .i64 z] 96));have m7:=(C5.out.next ((Below.refl w5.heap.size w5).alloc qR (.cells #[.int .i64 f,.int .i64 b,.int .i64 u,.int .i64 z] 96))).mem;have o7:=(((HOw.out.alloc (.cells #[.int .i64 a,.int .i64 b,.int .i64 y,.int .i64 z] 96)).at (fun g hg=>K5.out.block g ((HOw.out.alloc _).lt g hg).2 (fun e=>by have h1:g=m:=e;have h2:=(HOw.out.lt g hg).1;omega))).alloc (.cells #[.int .i64 f,.int .i64 b,.int .i64 u,.int .i64 z] 96));obtain⟨r1,r2,r3,r4⟩:=z88 HC.out k7 m7 o7 H6.out (.int .i64 f) (.int .i64 b) (.int .i64 u) (.int .i64 z);refine⟨j+1,N5,HJM.out,by go_num,?_,?_,by have:=HN5.out;have:=HN1.out;omega,r3,r4⟩
       · rw[HPs.out,if_pos HD.out,HDL.out];exact r1
       · rw[HPs.out,if_pos HD.out]
         unfold pv4 z3K;simp only[HUZ.out.1,HUZ.out.2.2];exact r2
      case measure=>(have:=HJM.out;simp[intOf];try omega)
  · obtain rfl:j=M:=by omega
    have d1:decide ((j:Int)<(j:Int))=false:=qF (by omega);have d1':decide (j<j)=false:=qF (by omega)
    have HE:=hid (show(pts L s).map (z3K L)=DL++[⟨f,a,u,y⟩] by
     rw[HP.out];unfold prt;rw[hKP,hM,List.map_append,h2,hDL];show DL++[z3K L (f,a)]=_
     unfold z3K;simp only[hu,hy])
    clear h2 hto hf ha hu hy hDL hlt hj hN1;go_wp2_with (at_builtin;refine z1M rfl (.tmp 37) (.tmp 39) rfl (w.heap.size+1) _ DL rfl (HOw.out.alloc _) wr.heap.size 1 ⟨f,a,u,y⟩ rfl ⟨by simp,by simp,by simp,by simp⟩ (by omega) (by simp;omega) ?_;intro v7 w7 o7 g7 i7 b7;have O7:=hid o7;have I7:=hid i7;have G7:=hid g7;have B7:=hid b7;clear o7 g7 b7 i7);go_ret;refine⟨_,rfl,by rw[HE.out];exact O7.out.low (Nat.le_succ _),N1,HN1.out,?_⟩;have k8:Kept (One m) w w7:=(HKw.out.alloc _).grown G7.out (fun k e=> .inr (by have:=(HOw.out.lt k e).1;omega));exact⟨HC.out.step k8 ((HCw.out.next ((Below.refl wr.heap.size wr).alloc qR _)).mem.of (B7.out.block m (by omega))),k8⟩
end
end Go.Proofs.YtacelhaidcmbcaaGreatDoor.V
