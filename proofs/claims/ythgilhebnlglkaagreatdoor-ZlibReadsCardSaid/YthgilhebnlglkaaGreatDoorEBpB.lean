import Derived.Test.YthgilhebnlglkaaGreatDoorEBpA
import Derived.Test.YthgilhebnlglkaaGreatDoorEMYsD
set_option linter.all false
set_option maxHeartbeats 8000000
set_option maxRecDepth 1000000
open Go.Proofs.Tryz
namespace Go.Proofs.YthgilhebnlglkaaGreatDoor.V
open Go Go.RowKit M U
theorem alike_any(x N:Nat)(w:World)(h1:1<=N)(hN:N<=400):Calls prog 253 #[.int .u8 x,.int .i64 N] w (Rpt w x N):=by
 have HR:=qH (show Calls prog 287 #[.slice (some ⟨w.heap.size,0,none⟩) 1 1,.int .i64 N] (w.alloc (.cells #[.int .u8 x] 5)) (Rpt (w.alloc (.cells #[.int .u8 x] 5)) x N) from
  z8I w.heap.size x N _ h1 hN (by simp))
 unfold Rpt at HR ⊢;go_enter func253,ntmps253;go_wp2_with (go_at_call 287;(with_reducible refine HR.o.mono ?_);rintro e w1 ⟨g,rfl,hg1,r1,b1⟩;obtain⟨R1,B1⟩:=qh2 r1 b1;clear r1 b1);go_ret;exact⟨g,rfl,by have:=hg1;simp at this;omega,R1.o,((Below.refl w.heap.size w).alloc qR _).trans (B1.o.mono (by simp))⟩
theorem C2.below{w w':World}{g:Nat}{a b:Value}(h:C2 w g a b)(hb:Below w.heap.size w w'):C2 w' g a b:=World.rowIs.of_block h (hb.block g (World.rowIs.lt h))
theorem z0L{w w':World}{g n:Nat}{f:Nat->Nat}(h:Br w g n f)(hb:Below w.heap.size w w'):Br w' g n f:=h.below hb h.lt
theorem z2v{w:World}{k:IntKind}{A:Option Addr}{n:Nat}{f:Nat->Int}(h:z0e w k A n f){g i:Nat}{v:Value}(hA:∀b o,A=some ⟨b,o,none⟩->b≠g):z0e (w.setCell ⟨g,i,none⟩ v) k A n f:=λhn=>by
 obtain⟨b,o,e,hlt,hc⟩:=h hn;have hs:(w.setCell ⟨g,i,none⟩ v).heap[b]? =w.heap[b]? :=Below.heap_setCell _ _ _ _ (hA b o e);exact⟨b,o,e,by rw[World.size_setCell];exact hlt,λj hj=>(World.cell?_of_block (a:=⟨b,o+j,none⟩) hs).trans (hc j hj)⟩
theorem IsBys.nums'{w:World}{A:Option Addr}{n:Nat}{l:List Nat}(h:U.IsBys w A n l):z0e w .u8 A n (λi=>((l.getD i 0:Nat):Int)):=λhn=>h.at hn
def z1S:List Nat:=(List.range 144).map (λ_=>8)++((List.range 112).map (λ_=>9)++((List.range 24).map (λ_=>7)++((List.range 8).map (λ_=>8)++[])))
theorem z6H:∀i,i<288->z1S.getD i 0=fxl i:=by decide+kernel
theorem z1f:z1S.length=288:=by decide+kernel
theorem fixed_f(w:World):Calls prog 209 #[] w λe w'=> ∃A1 c1 A2 c2,e=.returned (.agg #[.slice A1 288 c1,.slice A2 30 c2])/\z0e w' .u8 A1 288 (λi=>(fxl i:Int))/\z0e w' .u8 A2 30 (λ_=>((5:Nat):Int))/\Below w.heap.size w w'/\(∀b o,A1=some ⟨b,o,none⟩->w.heap.size<=b)/\(∀b o,A2=some ⟨b,o,none⟩->w.heap.size<=b)/\c2=30:=by
 have H1:=qH (show ∀w,Calls prog 253 #[.int .u8 8,.int .i64 144] w (Rpt w 8 144) from λw=>alike_any 8 144 w (by omega) (by omega));have H2:=qH (show ∀w,Calls prog 253 #[.int .u8 9,.int .i64 112] w (Rpt w 9 112) from λw=>alike_any 9 112 w (by omega) (by omega));have H3:=qH (show ∀w,Calls prog 253 #[.int .u8 7,.int .i64 24] w (Rpt w 7 24) from λw=>alike_any 7 24 w (by omega) (by omega));have H4:=qH (show ∀w,Calls prog 253 #[.int .u8 8,.int .i64 8] w (Rpt w 8 8) from λw=>alike_any 8 8 w (by omega) (by omega));have H5:=qH (show ∀w,Calls prog 253 #[.int .u8 5,.int .i64 30] w (Rpt w 5 30) from λw=>alike_any 5 30 w (by omega) (by omega))
 have HC:=qH (λ(g1 g2 g3 g4 z:Nat) (w:World) (hz:w.heap[z]? =some (.cells #[.slice (some ⟨g1,0,none⟩) 144 144,.slice (some ⟨g2,0,none⟩) 112 112,.slice (some ⟨g3,0,none⟩) 24 24,.slice (some ⟨g4,0,none⟩) 8 8] 26 (0,0)))
  (r1:Br w g1 144 (λ_=>8)) (r2:Br w g2 112 (λ_=>9)) (r3:Br w g3 24 (λ_=>7)) (r4:Br w g4 8 (λ_=>8))=>
  show Calls prog 252 #[.slice (some ⟨z,0,none⟩) 4 4] w (Cct w z1S) from
  z44 z 4 [⟨some ⟨g1,0,none⟩,144,144,(List.range 144).map (λ_=>8)⟩,⟨some ⟨g2,0,none⟩,112,112,(List.range 112).map (λ_=>9)⟩,⟨some ⟨g3,0,none⟩,24,24,(List.range 24).map (λ_=>7)⟩,⟨some ⟨g4,0,none⟩,8,8,(List.range 8).map (λ_=>8)⟩] w rfl (by omega) (qW.1 hz).1
   (λi hi=>by
    match i,hi with
    |0,_=>exact cell_of_row _ _ 0 _ _ (0,0) hz
    |1,_=>exact cell_of_row _ _ 1 _ _ (0,0) hz
    |2,_=>exact cell_of_row _ _ 2 _ _ (0,0) hz
    |3,_=>exact cell_of_row _ _ 3 _ _ (0,0) hz)
   (λi hi=>by
    match i,hi with
    |0,_=>exact⟨IsBys.of_br r1 (by omega) (λ_=>by omega),show 0<144 by omega⟩
    |1,_=>exact⟨IsBys.of_br r2 (by omega) (λ_=>by omega),show 0<112 by omega⟩
    |2,_=>exact⟨IsBys.of_br r3 (by omega) (λ_=>by omega),show 0<24 by omega⟩
    |3,_=>exact⟨IsBys.of_br r4 (by omega) (λ_=>by omega),show 0<8 by omega⟩) (by show 0<z1S.length;rw[z1f];omega) (by show z1S.length<=2000;rw[z1f];omega))
 unfold Rpt at H1 H2 H3 H4 H5;unfold Cct at HC;rw[z1f] at HC;go_enter func209,ntmps209
 go_wp2_with (first
  |(go_at_call 253;(with_reducible refine(H1.o _).mono ?_);rintro e w1 ⟨g1,rfl,n1,r1,b1⟩;have R1:=qH r1;have C1:=qH ((C2.new w (.slice none 0 0) (.slice none 0 0)).below b1);have B1:=qH (((Below.refl w.heap.size w).alloc qR _).trans (b1.mono (by simp)));clear r1 b1)
  |(go_at_call 253;(with_reducible refine(H2.o _).mono ?_);rintro e w2 ⟨g2,rfl,n2,r2,b2⟩;obtain⟨R2,B2⟩:=qh2 r2 b2;clear r2 b2)
  |(go_at_call 253;(with_reducible refine(H3.o _).mono ?_);rintro e w3 ⟨g3,rfl,n3,r3,b3⟩;obtain⟨R3,B3⟩:=qh2 r3 b3;clear r3 b3)
  |(go_at_call 253;(with_reducible refine(H4.o _).mono ?_);rintro e w4 ⟨g4,rfl,n4,r4,b4⟩;obtain⟨R4,B4⟩:=qh2 r4 b4;clear r4 b4)
  |(go_at_call 252;(refine(HC.o g1 g2 g3 g4 w4.heap.size _ (heap_alloc_new _ _) ((z0L (z0L (z0L R1.o B2.o) B3.o) B4.o).alloc _) ((z0L (z0L R2.o B3.o) B4.o).alloc _) ((z0L R3.o B4.o).alloc _) (R4.o.alloc _)).mono ?_);rintro e w5 ⟨A5,c5,rfl,q5,n5,r5,b5⟩;have R5:=qH r5;have B5:=qH (((Below.refl w4.heap.size w4).alloc qR _).trans (b5.mono (by simp)));clear r5 b5 q5)
  |(go_at_call 253;(with_reducible refine(H5.o _).mono ?_);rintro e w6 ⟨g6,rfl,n6,r6,b6⟩;obtain⟨R6,B6⟩:=qh2 r6 b6;have c6:=((((C1.o.below B2.o).below B3.o).below B4.o).below B5.o).below b6;have C6:=qH c6;have k0:=c6.at0;have k1:=c6.at1;have f0:=c6.frozen 0;have f1:=c6.frozen 1;clear r6 b6 c6))
 refine bodyPost_ret (v:=.agg #[.slice A5 288 c5,.slice (some ⟨g6,0,none⟩) 30 30]) (results_cell_row rfl _ _ w.heap.size _ _ _ _ rfl (C6.o.put _ _).row underlying149 rfl z3g) rfl ?_
 have s2:=B2.o.size;have s3:=B3.o.size;have s4:=B4.o.size;have s5:=B5.o.size;have hlt:=C1.o.row;have hl2:=(qW.1 hlt).1;have hA:∀b o,A5=some ⟨b,o,none⟩->b≠w.heap.size:=λb o e q=>by have:=n5 b o e;simp at this;omega
 have hG:∀b o,(some ⟨g6,0,none⟩:Option Addr)=some ⟨b,o,none⟩->b≠w.heap.size:=λb o e q=>by
  simp only[Option.some.injEq,Addr.mk.injEq,and_true] at e;omega
 refine⟨A5,c5,_,30,rfl,?_,?_,?_,λb o q=>by have:=n5 b o q;simp at this;omega,λb o e=>by
  simp only[Option.some.injEq,Addr.mk.injEq,and_true] at e;omega,rfl⟩
 · exact z2v (z2v ((IsBys.nums' (R5.o.below B6.o)).congr λi hi=>by rw[z6H i hi]) hA) hA
 · exact z2v (z2v (λ_=>⟨g6,0,rfl,R6.o.lt,λi hi=>by rw[Nat.zero_add];exact R6.o.cell hi⟩) hG) hG
 · exact((((((B1.o.trans (B2.o.mono B1.o.size)).trans (B3.o.mono (by omega))).trans (B4.o.mono (by omega))).trans (B5.o.mono (by omega))).trans (B6.o.mono (by omega))).setCell (p:=⟨w.heap.size,0,none⟩) qR _).setCell (p:=⟨w.heap.size,1,none⟩) qR _
theorem order_p(w:World):Calls prog 258 #[] w λe w'=>e=.returned (.slice (some ⟨w.heap.size,0,none⟩) 19 19)/\IsBys w' (some ⟨w.heap.size,0,none⟩) 19 ord/\Below w.heap.size w w':=by
 go_enter func258,ntmps258;go_wp2;go_ret;exact⟨rfl,z5A _ _ (heap_alloc_new _ _),qL⟩
theorem zcq:(prog.info? 216).map (λi=>i.size)=some 2:=by kernel_rfl
def sgv(y:Sy):Value:=.agg #[.bool y.d,.int .i64 (y.n:Nat),.int .u32 (y.e:Nat),.int .u8 (y.b:Nat)]
section
variable {w w':World} {g:Nat} {a b c d:Value}
end
def z3s(L:List Tk):Bool:=L.all may
theorem z4e{L:List Tk}(h:∀t∈L,may t=true):z3s L=true:=List.all_eq_true.2 h
theorem z8W(A:Option Addr)(n c:Nat)(L:List Tk)(w:World)(h:z0j w A n L)(hn:n<=100000):
 Calls prog 238 #[.slice A n c] w λe w'=>e=.returned (.bool (z3s L))/\Below w.heap.size w w':=by
 have HH:=qH h;have hl:=h.leng;generalize hT:z3s L=T;obtain⟨HT,HL⟩:=qh2 hT hl;clear h hl hT;go_enter func238,ntmps238;go_wp2_with fail
 go_loopw [7] (λx wr=> ∃i:Nat,i<=n/\x=.int .i64 i/\(L.take i).all may=true/\Below w.heap.size w wr) (λx _=>n - (intOf x).toNat)
 case atStart=>exact⟨0,qZ,rfl,rfl,Below.refl _ _⟩
 case round=>
  obtain⟨i,hi,rfl,hr,hb⟩:=hrel;by_cases hin:i<n
  · obtain⟨b,o,rfl,hbl,hc⟩:=(HH.o.below hb).at (by omega)
    obtain⟨c0,c1,c2⟩:=hc i hin;obtain⟨t,ht⟩:∃t,L.getD i default=t:=⟨_,rfl⟩
    rw[ht] at c0 c1 c2;have HE:=qH (show L[i]? =some t by rw[<-ht,List.getD,qE (by rw[HL.o];exact hin)];rfl);obtain⟨tl,tn,td⟩:=t;simp only at c0 c1 c2;have hM:=z3O tl tn td;obtain⟨HB,HR⟩:=qh2 hb hr;have hi2:i<=100000:=(by omega);by_cases q:may ⟨tl,tn,td⟩=true
    · rw[q] at hM
      obtain⟨HM,HQ⟩:=qh2 hM q;clear hM q hb hc ht hr;go_wp2_with (go_at_call 194;(with_reducible refine(HM.o _).mono ?_);rintro e w1 ⟨rfl,b1⟩;have B1:=qH ((HB.o.alloc HB.o.size _).trans (b1.mono (by have:=HB.o.size;simp;omega)));clear b1);go_roundw
      case rel=>exact⟨i+1,hin,by go_num,by rw[List.take_add_one,HE.o,List.all_append,HR.o];simp[HQ.o],B1.o⟩
      case measure=>(simp[intOf];try omega)
    · have q':may ⟨tl,tn,td⟩=false:=by simpa using q
      rw[q'] at hM;have HM:=qH hM;have hF:T=false:=by
       rw[<-HT.o];unfold z3s;rw[List.all_eq_false];exact⟨_,List.mem_of_getElem? HE.o,by rw[q'];simp⟩
      subst hF;clear hM q q' hb hc ht hr;go_wp2_with (go_at_call 194;(with_reducible refine(HM.o _).mono ?_);rintro e w1 ⟨rfl,b1⟩;have B1:=qH ((HB.o.alloc HB.o.size _).trans (b1.mono (by have:=HB.o.size;simp;omega)));clear b1);exact bodyPost_ret (v:=.bool false) (by simp[results,results238,go_sem]) rfl ⟨rfl,B1.o⟩
  · obtain rfl:i=n:=by omega
    have hF:T=true:=by
     rw[<-HT.o];unfold z3s;rw[List.take_of_length_le (by rw[HL.o];exact qR)] at hr;exact hr
    subst hF;have HB:=qH hb;clear hr hb;go_wp2_with fail;go_ret;exact⟨rfl,HB.o⟩
def rfs(k:Nat)(L:List Tk):Nat:=if 2<k\/(k≠0/\z3s L=false) then 2 else 0
theorem z22(k:Nat)(A:Option Addr)(n c:Nat)(L:List Tk)(raw:ByteArray)(p:Nat)(w:World)(h:z0j w A n L)(hn:n<=100000)(hr:raw.size<=1000000)(hp:p<=100000000)(hk:k<=255):
 Calls prog 199 #[.int .u8 k,.slice A n c,.string raw,.int .i64 p] w λe w'=>e=.returned (.int .i64 (rfs k L))/\Below w.heap.size w w':=by
 have HM:=qH (z8W A n c L w h (by omega));obtain⟨T,hT⟩:∃T,z3s L=T:=⟨_,rfl⟩
 unfold rfs;rw[hT] at HM ⊢;clear h hT;have d3:decide ((p:Int)<0)=false:=qF (by omega);have d4:decide ((1048576:Int)<(raw.size:Int))=false:=qF (by omega);by_cases h2:2<k
 · have d1:decide ((2:Int)<(k:Int))=true:=q9T (by omega)
   rw[if_pos (.inl h2)];go_enter func199,ntmps199;go_wp2_with fail;go_ret;exact⟨rfl,Below.refl _ _⟩
 · have d1:decide ((2:Int)<(k:Int))=false:=qF (by omega)
   have d1':decide (2<k)=false:=qF h2;by_cases h0:k=0
   · subst h0
     rw[if_neg (by omega)];go_enter func199,ntmps199;go_wp2_with fail;go_ret;exact⟨rfl,Below.refl _ _⟩
   · have d5':((k:Int) !=0)=true:=by rw[bne_iff_ne];omega
     cases T
     · rw[if_pos (.inr ⟨h0,rfl⟩)]
       go_enter func199,ntmps199;go_wp2_with (go_at_call 238;(with_reducible refine HM.o.mono ?_);rintro e w1 ⟨rfl,b1⟩;have B1:=qH b1;clear b1);go_ret;exact⟨rfl,B1.o⟩
     · rw[if_neg (by simp;omega)]
       go_enter func199,ntmps199;go_wp2_with (go_at_call 238;(with_reducible refine HM.o.mono ?_);rintro e w1 ⟨rfl,b1⟩;have B1:=qH b1;clear b1);go_ret;exact⟨rfl,B1.o⟩
