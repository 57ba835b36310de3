import Derived.Test.YthgilhebnlglkaaGreatDoorEMRns
import Derived.Lib.ConvBytes
import Derived.RangeFuncOwn
set_option linter.all false
set_option maxHeartbeats 8000000
set_option maxRecDepth 1000000
open Go.Proofs.Tryz
namespace Go.Proofs.YthgilhebnlglkaaGreatDoor.V.Tx
open Go Go.RowKit M
open Go.ChangeShapes Go.WideShapes Go.Deep
section
variable {H:Type} {enc:TypeId×Value->H} {w:World} {spare:Nat->Bool} {held:Bool}
end
def zjS(a b c:Value)(i:Nat):Value:=if i=0 then a else if i=1 then b else c
def R3(w:World)(T:TypeId)(g:Nat)(a b c:Value):Prop:=w.rowIs g T 3 (zjS a b c)
section
variable {w w':World} {T:TypeId} {g:Nat} {a b c:Value}
theorem R3.new(w:World)(T:TypeId)(a b c:Value):R3 (w.alloc (.cells #[a,b,c] T)) T w.heap.size a b c:=⟨#[a,b,c],heap_alloc_new _ _,rfl,λi hi=>by
 match i,hi with
 |0,_=>rfl
 |1,_=>rfl
 |2,_=>rfl⟩
theorem R3.lt(h:R3 w T g a b c):g<w.heap.size:=World.rowIs.lt h
theorem R3.at0(h:R3 w T g a b c):w.cell? ⟨g,0,none⟩=some a:=World.rowIs.cell h (i:=0) (by omega)
theorem R3.at1(h:R3 w T g a b c):w.cell? ⟨g,1,none⟩=some b:=World.rowIs.cell h (i:=1) (by omega)
theorem R3.at2(h:R3 w T g a b c):w.cell? ⟨g,2,none⟩=some c:=World.rowIs.cell h (i:=2) (by omega)
theorem R3.of_block(h:R3 w T g a b c)(e:w'.heap[g]? =w.heap[g]?):R3 w' T g a b c:=World.rowIs.of_block h e
theorem R3.below(h:R3 w T g a b c){B:Nat}(hb:Below B w w')(hB:g<B):R3 w' T g a b c:=World.rowIs.of_block h (hb.block g hB)
end
structure Rb(w:World)(g cp:Nat)(bs:List UInt8):Prop where
 lt:g<w.heap.size
 nc:bs.length<=cp
 room:∀j,j<cp->(w.cell? ⟨g,j,none⟩).isSome=true
 free:∀j,j<cp->w.frozen? ⟨g,j,none⟩=false
 byte:∀j u,bs[j]? =some u->w.cell? ⟨g,j,none⟩=some (.int .u8 (u.toNat:Int))
 obj:∀o:Obj,w.heap[g]? =some o->o.isCells=true
section
variable {w w':World} {g cp:Nat} {bs:List UInt8}
end
theorem byteInfo:(prog.info? 5).map (λi=>(i.zero,i.size,i.bytes))=some (some (.int .u8 0),1,1):=by kernel_rfl
theorem info_of{e:TypeId}{z:Value}{size bytes:Nat}(hi:(prog.info? e).map (λi=>(i.zero,i.size,i.bytes))=some (some z,size,bytes)):∃i,prog.info? e=some i/\i.zero=some z/\i.size=size/\i.bytes=bytes:=by
 cases hq: prog.info? e with
 |none=>rw[hq] at hi;cases hi
 |some i=>rw[hq] at hi;simp at hi;exact⟨i,rfl,hi.1,hi.2.1,hi.2.2⟩
theorem Rb.of_own{w:World}{B n:Nat}{v:Value}{bs:List UInt8}(h:w.ownsRow B 5 1 v n (bs.map λu=>Value.int .u8 (u.toNat:Int)))(hn:0<n):∃g cp,v=.slice (some ⟨g,0,none⟩) n cp/\bs.length=n/\B<=g/\Rb w g cp bs:=by
 obtain⟨h1,h2⟩:=h;rw[List.length_map,Nat.mul_one] at h1;rcases h2 with⟨_,h2⟩|⟨g,cp,cur,rfl,hg,hh,hnc,hcm,hs,ht⟩
 · omega
 · rw[Nat.mul_one] at hs ht
   refine⟨g,cp,rfl,h1,hg,(qW.1 hh).1,by omega,λj hj=> ?_,λj hj=> ?_,λj u hu=> ?_,λo ho=>by rw[hh] at ho;cases ho;rfl⟩
   · rw[cell_of_row _ _ _ _ _ _ hh,Array.getElem?_eq_getElem (by omega)];rfl
   · simp[World.frozen?,hh]
   · rw[cell_of_row _ _ _ _ _ _ hh]
     have hj:j<n:=(by have:=(List.getElem?_eq_some_iff.1 hu).1;omega);have e:(cur.toList.take n)[j]? =some (Value.int .u8 (u.toNat:Int)):=(by rw[ht,List.getElem?_map,hu];rfl);rw[List.getElem?_take,if_pos hj,Array.getElem?_toList] at e;exact e
theorem run_bytes(w:World)(s:ByteArray)(hs:s.size<=100000000):∃cp W',(convert 9 26 (.string s)).run prog w=.ok (.slice (some ⟨w.heap.size,0,none⟩) s.size cp) W'/\Rb W' w.heap.size cp s.data.toList/\Below w.heap.size w W'/\W'.heap.size=w.heap.size+1:=by
 refine⟨_,_,Lib.run_convert_string_bytes (P:= prog) w 9 26 5 s underlying9 underlying26 underlying5,?_,?_,Lib.bytesWorld_size w _ s⟩
 · have hge:=grownCap_ge w s.size 0 5
   have hz:(Lib.bytesCells w 5 s).size=grownCap w s.size 0 5 :=by
    unfold Lib.bytesCells;have:s.data.size=s.size:=rfl;simp;omega
   have hat:=Lib.bytesWorld_at_new w 5 s;refine⟨by rw[Lib.bytesWorld_size];omega,by have:s.data.toList.length=s.size:=Array.length_toList;omega,λj hj=> ?_,λj hj=> ?_,λj u hu=> ?_,λo ho=>by rw[hat] at ho;cases ho;rfl⟩
   · rw[cell_of_row _ _ _ _ _ _ hat,Array.getElem?_eq_getElem (by omega)];rfl
   · simp only[World.frozen?,hat,Bool.and_eq_false_iff,decide_eq_false_iff_not];left;omega
   · have hj:j<s.size:=by have:=(List.getElem?_eq_some_iff.1 hu).1;rwa [Array.length_toList] at this
     rw[Lib.bytesWorld_cell w _ s j hj,List.getD,hu];rfl
 · exact⟨rfl,rfl,rfl,by rw[Lib.bytesWorld_size];omega,λk hk=>Lib.bytesWorld_at_old w _ s k hk⟩
theorem conv_rb{w:World}{g cp c:Nat}{bs:List UInt8}(h:Rb w g cp bs)(o n:Nat)(hn:bs.length=n)(ho:o<=n)(ad:Addr)(ha:o<n->ad=⟨g,o,none⟩):
 (convert 26 9 (.slice (some ad) (n - o) c)).run prog w=.ok (.string ⟨(bs.drop o).toArray⟩) w:=by
 have hl:(bs.drop o).length=n - o:=(by rw[List.length_drop,hn]);have:=run_convert_bytes_back (P:= prog) w 26 9 5 ad c (bs.drop o) underlying26 underlying5 underlying9 (λi hi=>by
  rw[hl] at hi;rw[ha (by omega),cadd_at];exact h.byte (o+i) _ (by rw[<-List.getElem?_drop];exact qE _))
 rw[hl] at this;exact this
end Go.Proofs.YthgilhebnlglkaaGreatDoor.V.Tx
namespace Go.Proofs.YthgilhebnlglkaaGreatDoor.V.Tx
open Go Go.RowKit M
open Go.ChangeShapes (lits)
theorem z8F(l n d:Int)(w:World):
 Calls prog 232 #[.agg #[.int .u8 l,.int .i64 n,.int .i64 d]] w λe w'=>e=.returned (.int .i64 (szo ⟨l,n,d⟩:Nat))/\Below w.heap.size w w':=by
 have hB:=z42 l n d;have hM:=z39 l n d;have hR:=R3.new w 139 (.int .u8 l) (.int .i64 n) (.int .i64 d);have hlt:=hR.lt;have hb0:Below w.heap.size w (w.alloc (.cells #[.int .u8 l,.int .i64 n,.int .i64 d] 139)):=qL;obtain⟨HR,HB0⟩:=qh2 hR hb0;clear hR hb0;by_cases h1:isB ⟨l,n,d⟩=true
 · rw[szo_byte h1]
   rw[h1] at hB;clear h1;have HB:=qH hB;clear hB hM;go_enter func232,ntmps232;go_wp2_with (go_at_call 229;refine(HB.o _).mono ?_;rintro e w1 ⟨rfl,b1⟩;have B1:=qH (HB0.o.trans (b1.mono (by simp)));clear b1);go_ret;exact⟨rfl,B1.o⟩
 · have h1':isB ⟨l,n,d⟩=false:=by simpa using h1
   rw[h1'] at hB;by_cases h2:isM ⟨l,n,d⟩=true
   · rw[szo_match h2]
     have hn:((n.toNat:Nat):Int)=n:=(by have:=z2c.1 h2;simp only at this;omega);show Calls _ _ _ _ λe w'=>e=.returned (.int .i64 ((n.toNat:Nat):Int))/\_
     rw[hn];rw[h2] at hM;obtain⟨HB,HM⟩:=qh2 hB hM;clear hB hM hn h1 h1' h2;go_enter func232,ntmps232;go_wp2_with (go_at_call 229;refine(HB.o _).mono ?_;rintro e w1 ⟨rfl,b1⟩;have hR1:=HR.o.below b1 hlt;have c0:=hR1.at0;have c1:=hR1.at1;have c2:=hR1.at2;have HR1:=qH hR1;have hlt1:=hR1.lt;have B1:=qH (HB0.o.trans (b1.mono (by simp)));clear b1 hR1);go_wp2_with (go_at_call 230;refine(HM.o _).mono ?_;rintro e w2 ⟨rfl,b2⟩;have hR2:=HR1.o.below b2 hlt1;have c0':=hR2.at0;have c1':=hR2.at1;have B2:=qbt B1 b2;clear b2 hR2);go_ret;exact⟨rfl,B2.o⟩
   · have h2':isM ⟨l,n,d⟩=false:=by simpa using h2
     have hv:szo ⟨l,n,d⟩=0:=(by unfold szo;rw[if_neg h1,if_neg h2]);rw[hv];rw[h2'] at hM;obtain⟨HB,HM⟩:=qh2 hB hM;clear hB hM h1 h1' h2 h2' hv;go_enter func232,ntmps232;go_wp2_with (go_at_call 229;refine(HB.o _).mono ?_;rintro e w1 ⟨rfl,b1⟩;have hR1:=HR.o.below b1 hlt;have c0:=hR1.at0;have c1:=hR1.at1;have c2:=hR1.at2;have B1:=qH (HB0.o.trans (b1.mono (by simp)));clear b1 hR1);go_wp2_with (go_at_call 230;refine(HM.o _).mono ?_;rintro e w2 ⟨rfl,b2⟩;have B2:=qbt B1 b2;clear b2);go_ret;exact⟨rfl,B2.o⟩
