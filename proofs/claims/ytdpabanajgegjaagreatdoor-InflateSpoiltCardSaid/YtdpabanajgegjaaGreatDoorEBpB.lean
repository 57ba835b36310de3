import Derived.Test.YtdpabanajgegjaaGreatDoorEBpA
import Derived.Test.YtdpabanajgegjaaGreatDoorEMBwK
import Derived.Test.YtdpabanajgegjaaGreatDoorEMRns
import Derived.Test.YtdpabanajgegjaaGreatDoorEMYsD
namespace Go.Proofs.YtdpabanajgegjaaGreatDoor.V
open Go.Lib (hid)
open Go Go.RowKit M U
set_option linter.unusedVariables false
set_option linter.unusedSimpArgs false
set_option maxRecDepth 1000000 in
theorem alike_any(x N:Nat)(w:World)(h1:1≤N)(hN:N≤400):Calls Tryz.prog 163 #[.int .u8 x,.int .i64 N] w (Rpt w x N):=by
 have HR:=hid (show Calls Tryz.prog 200 #[.slice (some ⟨w.heap.size,0,none⟩) 1 1,.int .i64 N] (w.alloc (.cells #[.int .u8 x] 5)) (Rpt (w.alloc (.cells #[.int .u8 x] 5)) x N) from
  repeat_any w.heap.size x N _ h1 hN (by simp))
 unfold Rpt at HR ⊢;go_enter Tryz.func163,Tryz.ntmps163;go_wp2_with (go_at_call 200;(with_reducible refine HR.out.mono ?_);rintro e w1 ⟨g,rfl,hg1,r1,b1⟩;have R1:=hid r1;have B1:=hid b1;clear r1 b1);go_ret;exact⟨g,rfl,by have:=hg1;simp at this;omega,R1.out,((Below.refl w.heap.size w).alloc (Nat.le_refl _) _).trans (B1.out.mono (by simp))⟩
theorem C2.below{w w':World}{g:Nat}{a b:Value}(h:C2 w g a b)(hb:Below w.heap.size w w'):C2 w' g a b:=World.rowIs.of_block h (hb.block g (World.rowIs.lt h))
theorem br_next{w w':World}{g n:Nat}{f:Nat→Nat}(h:Br w g n f)(hb:Below w.heap.size w w'):Br w' g n f:=h.below hb h.lt
theorem nums_set{w:World}{k:IntKind}{A:Option Addr}{n:Nat}{f:Nat→Int}(h:Nums w k A n f){g i:Nat}{v:Value}(hA:∀b o,A=some ⟨b,o,none⟩→b≠g):Nums (w.setCell ⟨g,i,none⟩ v) k A n f:=fun hn=>by
 obtain⟨b,o,e,hlt,hc⟩:=h hn;have hs:(w.setCell ⟨g,i,none⟩ v).heap[b]? =w.heap[b]? :=Below.heap_setCell _ _ _ _ (hA b o e);exact⟨b,o,e,by rw[World.size_setCell];exact hlt,fun j hj=>(World.cell?_of_block (a:=⟨b,o+j,none⟩) hs).trans (hc j hj)⟩
theorem IsBys.nums'{w:World}{A:Option Addr}{n:Nat}{l:List Nat}(h:U.IsBys w A n l):Nums w .u8 A n (fun i=>((l.getD i 0:Nat):Int)):=fun hn=>h.at hn
def fourLens:List Nat:=(List.range 144).map (fun _=>8)++((List.range 112).map (fun _=>9)++((List.range 24).map (fun _=>7)++((List.range 8).map (fun _=>8)++[])))
theorem fourLens_at:∀i,i<288→fourLens.getD i 0=fxl i:=by decide+kernel
theorem fourLens_len:fourLens.length=288:=by decide+kernel
set_option maxRecDepth 1000000 in
set_option maxHeartbeats 2000000 in
theorem fixed_f(w:World):Calls Tryz.prog 128 #[] w fun e w'=> ∃A1 c1 A2 c2,e=.returned (.agg #[.slice A1 288 c1,.slice A2 30 c2])∧Nums w' .u8 A1 288 (fun i=>(fxl i:Int))∧Nums w' .u8 A2 30 (fun _=>((5:Nat):Int))∧Below w.heap.size w w'∧(∀b o,A1=some ⟨b,o,none⟩→w.heap.size≤b)∧(∀b o,A2=some ⟨b,o,none⟩→w.heap.size≤b)∧c2=30:=by
 have H1:=hid (show ∀w,Calls Tryz.prog 163 #[.int .u8 8,.int .i64 144] w (Rpt w 8 144) from fun w=>alike_any 8 144 w (by omega) (by omega));have H2:=hid (show ∀w,Calls Tryz.prog 163 #[.int .u8 9,.int .i64 112] w (Rpt w 9 112) from fun w=>alike_any 9 112 w (by omega) (by omega));have H3:=hid (show ∀w,Calls Tryz.prog 163 #[.int .u8 7,.int .i64 24] w (Rpt w 7 24) from fun w=>alike_any 7 24 w (by omega) (by omega));have H4:=hid (show ∀w,Calls Tryz.prog 163 #[.int .u8 8,.int .i64 8] w (Rpt w 8 8) from fun w=>alike_any 8 8 w (by omega) (by omega));have H5:=hid (show ∀w,Calls Tryz.prog 163 #[.int .u8 5,.int .i64 30] w (Rpt w 5 30) from fun w=>alike_any 5 30 w (by omega) (by omega))
 have HC:=hid (fun(g1 g2 g3 g4 z:Nat) (w:World) (hz:w.heap[z]? =some (.cells #[.slice (some ⟨g1,0,none⟩) 144 144,.slice (some ⟨g2,0,none⟩) 112 112,.slice (some ⟨g3,0,none⟩) 24 24,.slice (some ⟨g4,0,none⟩) 8 8] 23 (0,0)))
  (r1:Br w g1 144 (fun _=>8)) (r2:Br w g2 112 (fun _=>9)) (r3:Br w g3 24 (fun _=>7)) (r4:Br w g4 8 (fun _=>8))=>
  show Calls Tryz.prog 162 #[.slice (some ⟨z,0,none⟩) 4 4] w (Cct w fourLens) from
  concat_any z 4 [⟨some ⟨g1,0,none⟩,144,144,(List.range 144).map (fun _=>8)⟩,⟨some ⟨g2,0,none⟩,112,112,(List.range 112).map (fun _=>9)⟩,⟨some ⟨g3,0,none⟩,24,24,(List.range 24).map (fun _=>7)⟩,⟨some ⟨g4,0,none⟩,8,8,(List.range 8).map (fun _=>8)⟩] w rfl (by omega) (Array.getElem?_eq_some_iff.1 hz).1
   (fun i hi=>by
    match i,hi with
    |0,_=>exact cell_of_row _ _ 0 _ _ (0,0) hz
    |1,_=>exact cell_of_row _ _ 1 _ _ (0,0) hz
    |2,_=>exact cell_of_row _ _ 2 _ _ (0,0) hz
    |3,_=>exact cell_of_row _ _ 3 _ _ (0,0) hz)
   (fun i hi=>by
    match i,hi with
    |0,_=>exact⟨IsBys.of_br r1 (by omega) (fun _=>by omega),show 0<144 by omega⟩
    |1,_=>exact⟨IsBys.of_br r2 (by omega) (fun _=>by omega),show 0<112 by omega⟩
    |2,_=>exact⟨IsBys.of_br r3 (by omega) (fun _=>by omega),show 0<24 by omega⟩
    |3,_=>exact⟨IsBys.of_br r4 (by omega) (fun _=>by omega),show 0<8 by omega⟩) (by show 0<fourLens.length;rw[fourLens_len];omega) (by show fourLens.length≤2000;rw[fourLens_len];omega))
 unfold Rpt at H1 H2 H3 H4 H5;unfold Cct at HC;rw[fourLens_len] at HC;go_enter Tryz.func128,Tryz.ntmps128
 go_wp2_with (first
  |(go_at_call 163;(with_reducible refine(H1.out _).mono ?_);rintro e w1 ⟨g1,rfl,n1,r1,b1⟩;have R1:=hid r1;have C1:=hid ((C2.new w (.slice none 0 0) (.slice none 0 0)).below b1);have B1:=hid (((Below.refl w.heap.size w).alloc (Nat.le_refl _) _).trans (b1.mono (by simp)));clear r1 b1)
  |(go_at_call 163;(with_reducible refine(H2.out _).mono ?_);rintro e w2 ⟨g2,rfl,n2,r2,b2⟩;have R2:=hid r2;have B2:=hid b2;clear r2 b2)
  |(go_at_call 163;(with_reducible refine(H3.out _).mono ?_);rintro e w3 ⟨g3,rfl,n3,r3,b3⟩;have R3:=hid r3;have B3:=hid b3;clear r3 b3)
  |(go_at_call 163;(with_reducible refine(H4.out _).mono ?_);rintro e w4 ⟨g4,rfl,n4,r4,b4⟩;have R4:=hid r4;have B4:=hid b4;clear r4 b4)
  |(go_at_call 162;(refine(HC.out g1 g2 g3 g4 w4.heap.size _ (heap_alloc_new _ _) ((br_next (br_next (br_next R1.out B2.out) B3.out) B4.out).alloc _) ((br_next (br_next R2.out B3.out) B4.out).alloc _) ((br_next R3.out B4.out).alloc _) (R4.out.alloc _)).mono ?_);rintro e w5 ⟨A5,c5,rfl,q5,n5,r5,b5⟩;have R5:=hid r5;have B5:=hid (((Below.refl w4.heap.size w4).alloc (Nat.le_refl _) _).trans (b5.mono (by simp)));clear r5 b5 q5)
  |(go_at_call 163;(with_reducible refine(H5.out _).mono ?_);rintro e w6 ⟨g6,rfl,n6,r6,b6⟩;have R6:=hid r6;have B6:=hid b6;have c6:=((((C1.out.below B2.out).below B3.out).below B4.out).below B5.out).below b6;have C6:=hid c6;have k0:=c6.at0;have k1:=c6.at1;have f0:=c6.frozen 0;have f1:=c6.frozen 1;clear r6 b6 c6))
 refine bodyPost_ret (v:=.agg #[.slice A5 288 c5,.slice (some ⟨g6,0,none⟩) 30 30]) (results_cell_row rfl _ _ w.heap.size _ _ _ _ rfl (C6.out.put _ _).row Tryz.underlying77 rfl codesSize) rfl ?_
 have s1:=B1.out.size;have s2:=B2.out.size;have s3:=B3.out.size;have s4:=B4.out.size;have s5:=B5.out.size;have hlt:=C1.out.row;have hl2:=(Array.getElem?_eq_some_iff.1 hlt).1;have hA:∀b o,A5=some ⟨b,o,none⟩→b≠w.heap.size:=fun b o e q=>by have:=n5 b o e;simp at this;omega
 have hG:∀b o,(some ⟨g6,0,none⟩:Option Addr)=some ⟨b,o,none⟩→b≠w.heap.size:=fun b o e q=>by
  simp only[Option.some.injEq,Addr.mk.injEq,and_true] at e;omega
 refine⟨A5,c5,_,30,rfl,?_,?_,?_,fun b o q=>by have:=n5 b o q;simp at this;omega,fun b o e=>by
  simp only[Option.some.injEq,Addr.mk.injEq,and_true] at e;omega,rfl⟩
 · exact nums_set (nums_set ((IsBys.nums' (R5.out.below B6.out)).congr fun i hi=>by rw[fourLens_at i hi]) hA) hA
 · exact nums_set (nums_set (fun _=>⟨g6,0,rfl,R6.out.lt,fun i hi=>by rw[Nat.zero_add];exact R6.out.cell hi⟩) hG) hG
 · exact((((((B1.out.trans (B2.out.mono B1.out.size)).trans (B3.out.mono (by omega))).trans (B4.out.mono (by omega))).trans (B5.out.mono (by omega))).trans (B6.out.mono (by omega))).setCell (p:=⟨w.heap.size,0,none⟩) (Nat.le_refl _) _).setCell (p:=⟨w.heap.size,1,none⟩) (Nat.le_refl _) _
set_option maxRecDepth 1000000 in
theorem order_p(w:World):Calls Tryz.prog 169 #[] w fun e w'=>e=.returned (.slice (some ⟨w.heap.size,0,none⟩) 19 19)∧IsBys w' (some ⟨w.heap.size,0,none⟩) 19 ord∧Below w.heap.size w w':=by
 go_enter Tryz.func169,Tryz.ntmps169;go_wp2;go_ret;exact⟨rfl,ord_cells _ _ (heap_alloc_new _ _),(Below.refl _ _).alloc (Nat.le_refl _) _⟩
section
variable {w w':World} {g:Nat} {a b c d:Value}
end
end Go.Proofs.YtdpabanajgegjaaGreatDoor.V
