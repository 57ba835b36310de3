import Derived.Test.YtacelhaidcmbcaaGreatDoorTBpA
import Derived.Test.YtacelhaidcmbcaaGreatDoorTMBwG
import Derived.Test.YtacelhaidcmbcaaGreatDoorTMRns
import Derived.Test.YtacelhaidcmbcaaGreatDoorTMYsA
set_option maxHeartbeats 8000000
set_option maxRecDepth 1000000
namespace Go.Proofs.YtacelhaidcmbcaaGreatDoor.V
open Go.Lib (hid)
open Go Go.RowKit M U
set_option linter.unusedVariables false
set_option linter.unusedSimpArgs false
theorem alike_any(x N:Nat)(w:World)(h1:1≤N)(hN:N≤400):Calls Tryz.prog 128 #[.int .u8 x,.int .i64 N] w (Rpt w x N):=by
 have HR:=hid (show Calls Tryz.prog 143 #[.slice (some ⟨w.heap.size,0,none⟩) 1 1,.int .i64 N] (w.alloc (.cells #[.int .u8 x] 5)) (Rpt (w.alloc (.cells #[.int .u8 x] 5)) x N) from
  z8X w.heap.size x N _ h1 hN (by simp))
 unfold Rpt at HR ⊢;go_enter Tryz.func128,Tryz.ntmps128;go_wp2_with (go_at_call 143;(with_reducible refine HR.out.mono ?_);rintro e w1 ⟨g,rfl,hg1,r1,b1⟩;have R1:=hid r1;have B1:=hid b1;clear r1 b1);go_ret;exact⟨g,rfl,by have:=hg1;simp at this;omega,R1.out,((Below.refl w.heap.size w).alloc qR _).trans (B1.out.mono (by simp))⟩
theorem C2.below{w w':World}{g:Nat}{a b:Value}(h:C2 w g a b)(hb:Below w.heap.size w w'):C2 w' g a b:=World.rowIs.of_block h (hb.block g (World.rowIs.lt h))
theorem z0I{w w':World}{g n:Nat}{f:Nat→Nat}(h:Br w g n f)(hb:Below w.heap.size w w'):Br w' g n f:=h.below hb h.lt
theorem z2F{w:World}{k:IntKind}{A:Option Addr}{n:Nat}{f:Nat→Int}(h:z09 w k A n f){g i:Nat}{v:Value}(hA:∀b o,A=some ⟨b,o,none⟩→b≠g):z09 (w.setCell ⟨g,i,none⟩ v) k A n f:=fun hn=>by
 obtain⟨b,o,e,hlt,hc⟩:=h hn;have hs:(w.setCell ⟨g,i,none⟩ v).heap[b]? =w.heap[b]? :=Below.heap_setCell _ _ _ _ (hA b o e);exact⟨b,o,e,by rw[World.size_setCell];exact hlt,fun j hj=>(World.cell?_of_block (a:=⟨b,o+j,none⟩) hs).trans (hc j hj)⟩
theorem IsBys.nums'{w:World}{A:Option Addr}{n:Nat}{l:List Nat}(h:U.IsBys w A n l):z09 w .u8 A n (fun i=>((l.getD i 0:Nat):Int)):=fun hn=>h.at hn
def z1Z:List Nat:=(List.range 144).map (fun _=>8)++((List.range 112).map (fun _=>9)++((List.range 24).map (fun _=>7)++((List.range 8).map (fun _=>8)++[])))
theorem z70:∀i,i<288→z1Z.getD i 0=fxl i:=by decide+kernel
theorem z1l:z1Z.length=288:=by decide+kernel
theorem zbz(w:World):Calls Tryz.prog 104 #[] w fun e w'=> ∃A1 c1 A2 c2,e=.returned (.agg #[.slice A1 288 c1,.slice A2 30 c2])∧z09 w' .u8 A1 288 (fun i=>(fxl i:Int))∧z09 w' .u8 A2 30 (fun _=>((5:Nat):Int))∧Below w.heap.size w w'∧(∀b o,A1=some ⟨b,o,none⟩→w.heap.size≤b)∧(∀b o,A2=some ⟨b,o,none⟩→w.heap.size≤b):=by
 have H1:=hid (show ∀w,Calls Tryz.prog 128 #[.int .u8 8,.int .i64 144] w (Rpt w 8 144) from fun w=>alike_any 8 144 w (by omega) (by omega));have H2:=hid (show ∀w,Calls Tryz.prog 128 #[.int .u8 9,.int .i64 112] w (Rpt w 9 112) from fun w=>alike_any 9 112 w (by omega) (by omega));have H3:=hid (show ∀w,Calls Tryz.prog 128 #[.int .u8 7,.int .i64 24] w (Rpt w 7 24) from fun w=>alike_any 7 24 w (by omega) (by omega));have H4:=hid (show ∀w,Calls Tryz.prog 128 #[.int .u8 8,.int .i64 8] w (Rpt w 8 8) from fun w=>alike_any 8 8 w (by omega) (by omega));have H5:=hid (show ∀w,Calls Tryz.prog 128 #[.int .u8 5,.int .i64 30] w (Rpt w 5 30) from fun w=>alike_any 5 30 w (by omega) (by omega))
 have HC:=hid (fun(g1 g2 g3 g4 z:Nat) (w:World) (hz:w.heap[z]? =some (.cells #[.slice (some ⟨g1,0,none⟩) 144 144,.slice (some ⟨g2,0,none⟩) 112 112,.slice (some ⟨g3,0,none⟩) 24 24,.slice (some ⟨g4,0,none⟩) 8 8] 40 (0,0)))
  (r1:Br w g1 144 (fun _=>8)) (r2:Br w g2 112 (fun _=>9)) (r3:Br w g3 24 (fun _=>7)) (r4:Br w g4 8 (fun _=>8))=>
  show Calls Tryz.prog 127 #[.slice (some ⟨z,0,none⟩) 4 4] w (Cct w z1Z) from
  z4g z 4 [⟨some ⟨g1,0,none⟩,144,144,(List.range 144).map (fun _=>8)⟩,⟨some ⟨g2,0,none⟩,112,112,(List.range 112).map (fun _=>9)⟩,⟨some ⟨g3,0,none⟩,24,24,(List.range 24).map (fun _=>7)⟩,⟨some ⟨g4,0,none⟩,8,8,(List.range 8).map (fun _=>8)⟩] w rfl (by omega) (qW.1 hz).1
   (fun i hi=>by
    match i,hi with
    |0,_=>exact cell_of_row _ _ 0 _ _ (0,0) hz
    |1,_=>exact cell_of_row _ _ 1 _ _ (0,0) hz
    |2,_=>exact cell_of_row _ _ 2 _ _ (0,0) hz
    |3,_=>exact cell_of_row _ _ 3 _ _ (0,0) hz)
   (fun i hi=>by
    match i,hi with
    |0,_=>exact⟨IsBys.of_br r1 (by omega) (fun _=>by omega),show 0<144 by omega⟩
    |1,_=>exact⟨IsBys.of_br r2 (by omega) (fun _=>by omega),show 0<112 by omega⟩
    |2,_=>exact⟨IsBys.of_br r3 (by omega) (fun _=>by omega),show 0<24 by omega⟩
    |3,_=>exact⟨IsBys.of_br r4 (by omega) (fun _=>by omega),show 0<8 by omega⟩) (by show 0<z1Z.length;rw[z1l];omega) (by show z1Z.length≤2000;rw[z1l];omega))
 unfold Rpt at H1 H2 H3 H4 H5;unfold Cct at HC;rw[z1l] at HC;go_enter Tryz.func104,Tryz.ntmps104
 go_wp2_with (first
  |(go_at_call 128;(with_reducible refine(H1.out _).mono ?_);rintro e w1 ⟨g1,rfl,n1,r1,b1⟩;have R1:=hid r1;have C1:=hid ((C2.new w (.slice none 0 0) (.slice none 0 0)).below b1);have B1:=hid (((Below.refl w.heap.size w).alloc qR _).trans (b1.mono (by simp)));clear r1 b1)
  |(go_at_call 128;(with_reducible refine(H2.out _).mono ?_);rintro e w2 ⟨g2,rfl,n2,r2,b2⟩;have R2:=hid r2;have B2:=hid b2;clear r2 b2)
  |(go_at_call 128;(with_reducible refine(H3.out _).mono ?_);rintro e w3 ⟨g3,rfl,n3,r3,b3⟩;have R3:=hid r3;have B3:=hid b3;clear r3 b3)
  |(go_at_call 128;(with_reducible refine(H4.out _).mono ?_);rintro e w4 ⟨g4,rfl,n4,r4,b4⟩;have R4:=hid r4;have B4:=hid b4;clear r4 b4)
  |(go_at_call 127;(refine(HC.out g1 g2 g3 g4 w4.heap.size _ (heap_alloc_new _ _) ((z0I (z0I (z0I R1.out B2.out) B3.out) B4.out).alloc _) ((z0I (z0I R2.out B3.out) B4.out).alloc _) ((z0I R3.out B4.out).alloc _) (R4.out.alloc _)).mono ?_);rintro e w5 ⟨A5,c5,rfl,q5,n5,r5,b5⟩;have R5:=hid r5;have B5:=hid (((Below.refl w4.heap.size w4).alloc qR _).trans (b5.mono (by simp)));clear r5 b5 q5)
  |(go_at_call 128;(with_reducible refine(H5.out _).mono ?_);rintro e w6 ⟨g6,rfl,n6,r6,b6⟩;have R6:=hid r6;have B6:=hid b6;have c6:=((((C1.out.below B2.out).below B3.out).below B4.out).below B5.out).below b6;have C6:=hid c6;have k0:=c6.at0;have k1:=c6.at1;have f0:=c6.frozen 0;have f1:=c6.frozen 1;clear r6 b6 c6))
 refine bodyPost_ret (v:=.agg #[.slice A5 288 c5,.slice (some ⟨g6,0,none⟩) 30 30]) (results_cell_row rfl _ _ w.heap.size _ _ _ _ rfl (C6.out.put _ _).row Tryz.underlying74 rfl z24) rfl ?_
 have s1:=B1.out.size;have s2:=B2.out.size;have s3:=B3.out.size;have s4:=B4.out.size;have s5:=B5.out.size;have hlt:=C1.out.row;have hl2:=(qW.1 hlt).1;have hA:∀b o,A5=some ⟨b,o,none⟩→b≠w.heap.size:=fun b o e q=>by have:=n5 b o e;simp at this;omega
 have hG:∀b o,(some ⟨g6,0,none⟩:Option Addr)=some ⟨b,o,none⟩→b≠w.heap.size:=fun b o e q=>by
  simp only[Option.some.injEq,Addr.mk.injEq,and_true] at e;omega
 refine⟨A5,c5,_,30,rfl,?_,?_,?_,fun b o q=>by have:=n5 b o q;simp at this;omega,fun b o e=>by
  simp only[Option.some.injEq,Addr.mk.injEq,and_true] at e;omega⟩
 · exact z2F (z2F ((IsBys.nums' (R5.out.below B6.out)).congr fun i hi=>by rw[z70 i hi]) hA) hA
 · exact z2F (z2F (fun _=>⟨g6,0,rfl,R6.out.lt,fun i hi=>by rw[Nat.zero_add];exact R6.out.cell hi⟩) hG) hG
 · exact((((((B1.out.trans (B2.out.mono B1.out.size)).trans (B3.out.mono (by omega))).trans (B4.out.mono (by omega))).trans (B5.out.mono (by omega))).trans (B6.out.mono (by omega))).setCell (p:=⟨w.heap.size,0,none⟩) qR _).setCell (p:=⟨w.heap.size,1,none⟩) qR _
theorem zgG(w:World):Calls Tryz.prog 104 #[] w fun e w'=> ∃A1 c1 A2 c2,e=.returned (.agg #[.slice A1 288 c1,.slice A2 30 c2])∧z09 w' .u8 A1 288 (fun i=>(fxl i:Int))∧z09 w' .u8 A2 30 (fun _=>((5:Nat):Int))∧Below w.heap.size w w':=
 (zbz w).mono fun e w' ⟨A1,c1,A2,c2,h1,h2,h3,h4,_,_⟩=>⟨A1,c1,A2,c2,h1,h2,h3,h4⟩
theorem zgg(w:World):Calls Tryz.prog 153 #[] w fun e w'=>e=.returned (.slice (some ⟨w.heap.size,0,none⟩) 19 19)∧IsBys w' (some ⟨w.heap.size,0,none⟩) 19 ord∧Below w.heap.size w w':=by
 go_enter Tryz.func153,Tryz.ntmps153;go_wp2;go_ret;exact⟨rfl,z5T _ _ (heap_alloc_new _ _),qL⟩
theorem z6k:(Tryz.prog.info? 128).map (fun i=>i.size)=some 2:=by kernel_rfl
theorem z6h:(Tryz.prog.info? 203).map (fun i=>i.size)=some 4:=by kernel_rfl
theorem z4p(n s:Nat)(w:World)(hs:s≤255):Calls Tryz.prog 109 #[.int .u32 n,.int .i64 s] w fun e w'=>e=.returned (.agg #[.int .u32 n,.int .u8 s])∧Below w.heap.size w w':=by
 go_enter Tryz.func109,Tryz.ntmps109;go_wp2;exact bodyPost_ret (v:=.agg #[.int .u32 n,.int .u8 s]) (results_cell_row rfl _ _ w.heap.size _ _ _ _ rfl (heap_alloc_new _ _) Tryz.underlying128 rfl z6k) rfl ⟨rfl,qL⟩
def sgv(y:Sy):Value:=.agg #[.bool y.d,.int .i64 (y.n:Nat),.int .u32 (y.e:Nat),.int .u8 (y.b:Nat)]
def zjo(a b c d:Value)(i:Nat):Value:=if i=0 then a else if i=1 then b else if i=2 then c else d
def G4(w:World)(g:Nat)(a b c d:Value):Prop:=w.rowIs g 203 4 (zjo a b c d)
section
variable {w w':World} {g:Nat} {a b c d:Value}
theorem G4.of_row(h:w.heap[g]? =some (.cells #[a,b,c,d] 203 (0,0))):G4 w g a b c d:=⟨#[a,b,c,d],h,rfl,fun i hi=>by
 match i,hi with
 |0,_=>rfl
 |1,_=>rfl
 |2,_=>rfl
 |3,_=>rfl⟩
theorem G4.below(h:G4 w g a b c d)(hb:Below w.heap.size w w'):G4 w' g a b c d:=World.rowIs.of_block h (hb.block g (World.rowIs.lt h))
theorem G4.at0(h:G4 w g a b c d):w.cell? ⟨g,0,none⟩=some a:=World.rowIs.cell h (i:=0) (by omega)
theorem G4.at1(h:G4 w g a b c d):w.cell? ⟨g,1,none⟩=some b:=World.rowIs.cell h (i:=1) (by omega)
theorem G4.at2(h:G4 w g a b c d):w.cell? ⟨g,2,none⟩=some c:=World.rowIs.cell h (i:=2) (by omega)
theorem G4.at3(h:G4 w g a b c d):w.cell? ⟨g,3,none⟩=some d:=World.rowIs.cell h (i:=3) (by omega)
theorem G4.frozen(h:G4 w g a b c d)(i:Nat):w.frozen? ⟨g,i,none⟩=false:=World.rowIs.frozen h i
theorem G4.put(h:G4 w g a b c d)(a' b' c' d':Value):G4 ((((w.setCell ⟨g,0,none⟩ a').setCell ⟨g,1,none⟩ b').setCell ⟨g,2,none⟩ c').setCell ⟨g,3,none⟩ d') g a' b' c' d':=
 World.rowIs.congr (World.rowIs.set (World.rowIs.set (World.rowIs.set (World.rowIs.set h 0 a') 1 b') 2 c') 3 d') (fun j hj=>by
  match j,hj with
  |0,_=>rfl
  |1,_=>rfl
  |2,_=>rfl
  |3,_=>rfl)
theorem G4.row(h:G4 w g a b c d):w.heap[g]? =some (.cells #[a,b,c,d] 203 (0,0)):=by
 obtain⟨e,h1,h2,h3⟩:=h
 have:e= #[a,b,c,d]:=by
  apply Array.ext_getElem?
  intro i
  match i with
  |0=>exact h3 0 (by omega)
  |1=>exact h3 1 (by omega)
  |2=>exact h3 2 (by omega)
  |3=>exact h3 3 (by omega)
  |i+4=>rw[Array.getElem?_eq_none (by omega),Array.getElem?_eq_none (by simp)]
 rw[h1,this]
theorem G4.bel{B:Nat}{w0:World}(h:Below B w0 w)(hg:B≤g)(a' b' c' d':Value):Below B w0 ((((w.setCell ⟨g,0,none⟩ a').setCell ⟨g,1,none⟩ b').setCell ⟨g,2,none⟩ c').setCell ⟨g,3,none⟩ d'):=
 (((h.setCell (p:=⟨g,0,none⟩) hg _).setCell (p:=⟨g,1,none⟩) hg _).setCell (p:=⟨g,2,none⟩) hg _).setCell (p:=⟨g,3,none⟩) hg _
end
theorem z5Y(l d:Int)(n:Nat)(w:World)(H:Y.Tab w)(hn:3≤n∧n≤258):Calls Tryz.prog 138 #[.agg #[.int .u8 l,.int .i64 n,.int .i64 d]] w fun e w'=>e=.returned (sgv ⟨false,257+lsy n,lex n,lb (lsy n)⟩)∧Below w.heap.size w w':=by
 have hb0:Below w.heap.size w ((w.alloc (.cells #[.int .u8 l,.int .i64 n,.int .i64 d] 64)).alloc (.cells #[.bool false,.int .i64 0,.int .u32 0,.int .u8 0] 203)):=(qL).alloc (by simp) _
 have hz:((w.alloc (.cells #[.int .u8 l,.int .i64 n,.int .i64 d] 64)).alloc (.cells #[.bool false,.int .i64 0,.int .u32 0,.int .u8 0] 203)).heap[w.heap.size+1]? =some (.cells #[.bool false,.int .i64 0,.int .u32 0,.int .u8 0] 203 (0,0)):=by
  have:=heap_alloc_new (w.alloc (.cells #[.int .u8 l,.int .i64 n,.int .i64 d] 64)) (.cells #[.bool false,.int .i64 0,.int .u32 0,.int .u8 0] 203);rw[World.size_alloc] at this;exact this
 have h:=Y.length_yes n _ (H.below hb0 qR) hn;have hb:lb (lsy n)≤255:=qK (zi8 _ (z5Z hn).1) (by omega);obtain⟨b,hbb⟩:∃b,lb (lsy n)=b:=⟨_,rfl⟩
 obtain⟨x,hx⟩:∃x,lex n=x:=⟨_,rfl⟩
 obtain⟨a,ha⟩:∃a,257+lsy n=a:=⟨_,rfl⟩
 rw[hbb,hx,ha] at h ⊢;rw[hbb] at hb;have HH:=hid h;have HB:=hid hb0;have HG:=hid (G4.of_row hz);have HBi:=hid (fun w=>z4p x b w hb);clear h hb0 H ha hx hbb hz;unfold sgv;go_enter Tryz.func138,Tryz.ntmps138
 go_wp2_with (first
  |(go_at_call 157;(with_reducible refine HH.out.mono ?_);rintro e w1 ⟨rfl,b1⟩;have G1:=hid (HG.out.below b1);have B1:=hid (HB.out.trans (b1.mono HB.out.size));clear b1)
  |(go_at_call 109;(with_reducible refine(HBi.out _).mono ?_);rintro e w2 ⟨rfl,b2⟩;have g2:=G1.out.below b2;have B2:=hid (B1.out.trans (b2.mono B1.out.size));have k0:=g2.at0;have k1:=g2.at1;have k2:=g2.at2;have k3:=g2.at3;have f0:=g2.frozen 0;have f1:=g2.frozen 1;have f2:=g2.frozen 2;have f3:=g2.frozen 3;have G2:=hid g2;clear b2 g2))
 exact bodyPost_ret (v:=.agg #[.bool false,.int .i64 a,.int .u32 x,.int .u8 b]) (results_cell_row rfl _ _ (w.heap.size+1) _ _ _ _ rfl (G2.out.put _ _ _ _).row Tryz.underlying203 rfl z6h) rfl ⟨rfl,G4.bel B2.out (by omega) _ _ _ _⟩
theorem z9k(l d:Int)(n:Nat)(w:World)(H:Y.Tab w)(hn:1≤n∧n≤32768):Calls Tryz.prog 139 #[.agg #[.int .u8 l,.int .i64 d,.int .i64 n]] w fun e w'=>e=.returned (sgv ⟨true,dsy n,dex n,db (dsy n)⟩)∧Below w.heap.size w w':=by
 have hb0:Below w.heap.size w ((w.alloc (.cells #[.int .u8 l,.int .i64 d,.int .i64 n] 64)).alloc (.cells #[.bool false,.int .i64 0,.int .u32 0,.int .u8 0] 203)):=(qL).alloc (by simp) _
 have hz:((w.alloc (.cells #[.int .u8 l,.int .i64 d,.int .i64 n] 64)).alloc (.cells #[.bool false,.int .i64 0,.int .u32 0,.int .u8 0] 203)).heap[w.heap.size+1]? =some (.cells #[.bool false,.int .i64 0,.int .u32 0,.int .u8 0] 203 (0,0)):=by
  have:=heap_alloc_new (w.alloc (.cells #[.int .u8 l,.int .i64 d,.int .i64 n] 64)) (.cells #[.bool false,.int .i64 0,.int .u32 0,.int .u8 0] 203);rw[World.size_alloc] at this;exact this
 have h:=Y.dist_yes n _ (H.below hb0 qR) hn;have hb:db (dsy n)≤255:=qK (zij _ (z3i hn).1) (by omega);obtain⟨b,hbb⟩:∃b,db (dsy n)=b:=⟨_,rfl⟩
 obtain⟨x,hx⟩:∃x,dex n=x:=⟨_,rfl⟩
 obtain⟨a,ha⟩:∃a,dsy n=a:=⟨_,rfl⟩
 rw[hbb,hx,ha] at h ⊢;rw[hbb] at hb;have HH:=hid h;have HB:=hid hb0;have HG:=hid (G4.of_row hz);have HBi:=hid (fun w=>z4p x b w hb);clear h hb0 H ha hx hbb hz;unfold sgv;go_enter Tryz.func139,Tryz.ntmps139
 go_wp2_with (first
  |(go_at_call 158;(with_reducible refine HH.out.mono ?_);rintro e w1 ⟨rfl,b1⟩;have G1:=hid (HG.out.below b1);have B1:=hid (HB.out.trans (b1.mono HB.out.size));clear b1)
  |(go_at_call 109;(with_reducible refine(HBi.out _).mono ?_);rintro e w2 ⟨rfl,b2⟩;have g2:=G1.out.below b2;have B2:=hid (B1.out.trans (b2.mono B1.out.size));have k0:=g2.at0;have k1:=g2.at1;have k2:=g2.at2;have k3:=g2.at3;have f0:=g2.frozen 0;have f1:=g2.frozen 1;have f2:=g2.frozen 2;have f3:=g2.frozen 3;have G2:=hid g2;clear b2 g2))
 exact bodyPost_ret (v:=.agg #[.bool true,.int .i64 a,.int .u32 x,.int .u8 b]) (results_cell_row rfl _ _ (w.heap.size+1) _ _ _ _ rfl (G2.out.put _ _ _ _).row Tryz.underlying203 rfl z6h) rfl ⟨rfl,G4.bel B2.out (by omega) _ _ _ _⟩
def z27(L:List Tk):Bool:=L.all may
theorem z4r{L:List Tk}(h:∀t∈L,may t=true):z27 L=true:=List.all_eq_true.2 h
theorem zcr{L:List Tk}{n:Nat}(hl:L.length=n)(h:∃i,i<n∧may (L.getD i default)=false):z27 L=false:=by
 obtain⟨i,hi,h⟩:=h;unfold z27;rw[List.all_eq_false];refine⟨L.getD i default,?_,by rw[h];simp⟩;rw[List.getD,qE (by omega)];exact List.getElem_mem _
theorem z97(A:Option Addr)(n c:Nat)(L:List Tk)(w:World)(h:IsTks w A n L)(hn:n≤100000):
 Calls Tryz.prog 100 #[.slice A n c] w fun e w'=>e=.returned (.bool (z27 L))∧Below w.heap.size w w':=by
 have HH:=hid h;have hl:=h.leng;obtain⟨T,hT⟩:∃T,z27 L=T:=⟨_,rfl⟩
 rw[hT];have HT:=hid hT;have HL:=hid hl;clear h hl hT;go_enter Tryz.func100,Tryz.ntmps100;go_wp2_with fail
 go_loopw [7] (fun x wr=> ∃i:Nat,i≤n∧x=.int .i64 i∧(L.take i).all may=true∧Below w.heap.size w wr) (fun x _=>n - (intOf x).toNat)
 case atStart=>exact⟨0,qZ,rfl,rfl,Below.refl _ _⟩
 case round=>
  obtain⟨i,hi,rfl,hr,hb⟩:=hrel;by_cases hin:i<n
  · have d4:decide ((i:Int)<(n:Int))=true:=q9T (by omega)
    have d4':decide (i<n)=true:=q9T hin;obtain⟨b,o,rfl,hbl,hc⟩:=(HH.out.below hb).at (by omega);obtain⟨c0,c1,c2⟩:=hc i hin;obtain⟨t,ht⟩:∃t,L.getD i default=t:=⟨_,rfl⟩
    rw[ht] at c0 c1 c2;have HE:=hid (show L[i]? =some t by rw[←ht,List.getD,qE (by rw[HL.out];exact hin)];rfl);obtain⟨tl,tn,td⟩:=t;simp only at c0 c1 c2;have hM:=z3Y tl tn td;have HB:=hid hb;have HR:=hid hr;have hi2:i≤100000:=by omega
    by_cases q:may ⟨tl,tn,td⟩=true
    · rw[q] at hM
      have HM:=hid hM;have HQ:=hid q;clear hM q hb hc ht hr;go_wp2_with (go_at_call 62;(with_reducible refine(HM.out _).mono ?_);rintro e w1 ⟨rfl,b1⟩;have B1:=hid ((HB.out.alloc HB.out.size _).trans (b1.mono (by have:=HB.out.size;simp;omega)));clear b1);go_roundw
      case rel=>exact⟨i+1,hin,by go_num,by rw[List.take_add_one,HE.out,List.all_append,HR.out];simp[HQ.out],B1.out⟩
      case measure=>(simp[intOf];try omega)
    · have q':may ⟨tl,tn,td⟩=false:=by simpa using q
      rw[q'] at hM;have HM:=hid hM
      have hF:T=false:=by
       rw[←HT.out];unfold z27;rw[List.all_eq_false];exact⟨_,List.mem_of_getElem? HE.out,by rw[q'];simp⟩
      subst hF;clear hM q q' hb hc ht hr;go_wp2_with (go_at_call 62;(with_reducible refine(HM.out _).mono ?_);rintro e w1 ⟨rfl,b1⟩;have B1:=hid ((HB.out.alloc HB.out.size _).trans (b1.mono (by have:=HB.out.size;simp;omega)));clear b1);exact bodyPost_ret (v:=.bool false) (by simp[results,Tryz.results100,go_sem]) rfl ⟨rfl,B1.out⟩
  · obtain rfl:i=n:=by omega
    have d4:decide ((i:Int)<(i:Int))=false:=qF (by omega);have d4':decide (i<i)=false:=qF (by omega)
    have hF:T=true:=by
     rw[←HT.out];unfold z27;rw[List.take_of_length_le (by rw[HL.out];exact qR)] at hr;exact hr
    subst hF;have HB:=hid hb;clear hr hb;go_wp2_with fail;go_ret;exact⟨rfl,HB.out⟩
def rfs(k:Nat)(L:List Tk):Nat:=if 2<k∨(k≠0∧z27 L=false) then 2 else 0
theorem z0W(k:Nat)(A:Option Addr)(n c:Nat)(L:List Tk)(raw:ByteArray)(p:Nat)(w:World)(h:IsTks w A n L)(hn:n≤100000)(hr:raw.size≤1000000)(hp:p≤100000000)(hk:k≤255):
 Calls Tryz.prog 67 #[.int .u8 k,.slice A n c,.string raw,.int .i64 p] w fun e w'=>e=.returned (.int .i64 (rfs k L))∧Below w.heap.size w w':=by
 have HM:=hid (z97 A n c L w h (by omega));obtain⟨T,hT⟩:∃T,z27 L=T:=⟨_,rfl⟩
 unfold rfs;rw[hT] at HM ⊢;clear h hT;have d3:decide ((p:Int)<0)=false:=qF (by omega);have d4:decide ((1048576:Int)<(raw.size:Int))=false:=qF (by omega);have d4':decide (1048576<raw.size)=false:=qF (by omega);by_cases h2:2<k
 · have d1:decide ((2:Int)<(k:Int))=true:=q9T (by omega)
   have d1':decide (2<k)=true:=q9T h2;rw[if_pos (.inl h2)];go_enter Tryz.func67,Tryz.ntmps67;go_wp2_with fail;go_ret;exact⟨rfl,Below.refl _ _⟩
 · have d1:decide ((2:Int)<(k:Int))=false:=qF (by omega)
   have d1':decide (2<k)=false:=qF h2;by_cases h0:k=0
   · subst h0
     rw[if_neg (by omega)];go_enter Tryz.func67,Tryz.ntmps67;go_wp2_with fail;go_ret;exact⟨rfl,Below.refl _ _⟩
   · have d5:((k:Int)==0)=false:=by rw[qN];omega
     have d5':((k:Int) !=0)=true:=by rw[bne_iff_ne];omega
     cases T
     · rw[if_pos (.inr ⟨h0,rfl⟩)]
       go_enter Tryz.func67,Tryz.ntmps67;go_wp2_with (go_at_call 100;(with_reducible refine HM.out.mono ?_);rintro e w1 ⟨rfl,b1⟩;have B1:=hid b1;clear b1);go_ret;exact⟨rfl,B1.out⟩
     · rw[if_neg (by simp;omega)]
       go_enter Tryz.func67,Tryz.ntmps67;go_wp2_with (go_at_call 100;(with_reducible refine HM.out.mono ?_);rintro e w1 ⟨rfl,b1⟩;have B1:=hid b1;clear b1);go_ret;exact⟨rfl,B1.out⟩
end Go.Proofs.YtacelhaidcmbcaaGreatDoor.V
