import Derived.Test.YthgilhebnlglkaaGreatDoorKMRns
import Derived.Lib.ConvBytes
import Derived.RangeFuncOwn
set_option linter.all false
set_option maxHeartbeats 0
set_option maxRecDepth 1000000
open Go.Proofs.Tryz
namespace Go.Proofs.YthgilhebnlglkaaGreatDoor
namespace V.Tx
open Go Go.RowKit M
open Go.ChangeShapes Go.WideShapes Go.Deep
section
variable {H:Type} {enc:TypeId×Value->H} {w:World} {spare:Nat->Bool} {held:Bool}
end
def three(a b c:Value)(i:Nat):Value:=if i=0 then a else if i=1 then b else c
def R3(w:World)(T:TypeId)(g:Nat)(a b c:Value):Prop:=w.rowIs g T 3 (three a b c)
section
variable {w w':World} {T:TypeId} {g:Nat} {a b c:Value}
theorem R3.new(w:World)(T:TypeId)(a b c:Value):R3 (w.alloc (.cells #[a,b,c] T)) T w.heap.size a b c:=⟨#[a,b,c],heap_alloc_new _ _,rfl,λi hi=>by
 match i,hi with
 |0,_=>rfl
 |1,_=>rfl
 |2,_=>rfl⟩
theorem R3.lt(h:R3 w T g a b c):g<w.heap.size:=World.rowIs.lt h
theorem R3.at0(h:R3 w T g a b c):w.cell? ⟨g,0,none⟩=some a:=World.rowIs.cell h (i:=0) (by omega)
theorem R3.at1(h:R3 w T g a b c):w.cell? ⟨g,1,none⟩=some b:=World.rowIs.cell h (i:=1) (by omega)
theorem R3.at2(h:R3 w T g a b c):w.cell? ⟨g,2,none⟩=some c:=World.rowIs.cell h (i:=2) (by omega)
theorem R3.of_block(h:R3 w T g a b c)(e:w'.heap[g]? =w.heap[g]?):R3 w' T g a b c:=World.rowIs.of_block h e
theorem R3.below(h:R3 w T g a b c){B:Nat}(e:Below B w w')(d:g<B):R3 w' T g a b c:=World.rowIs.of_block h (e.block g d)
end
structure Rb(w:World)(g cp:Nat)(bs:List UInt8):Prop where
 lt:g<w.heap.size
 nc:bs.length<=cp
 room:∀j,j<cp->(w.cell? ⟨g,j,none⟩).isSome=true
 free:∀j,j<cp->w.frozen? ⟨g,j,none⟩=false
 byte:∀j u,bs[j]? =some u->w.cell? ⟨g,j,none⟩=some (.int .u8 (u.toNat:Int))
 obj:∀o:Obj,w.heap[g]? =some o->o.isCells=true
section
variable {w w':World} {g cp:Nat} {bs:List UInt8}
end
theorem byteInfo:(prog.info? 5).map (λi=>(i.zero,i.size,i.bytes))=some (some (.int .u8 0),1,1):=by kernel_rfl
theorem info_of{e:TypeId}{z:Value}{size bytes:Nat}(hi:(prog.info? e).map (λi=>(i.zero,i.size,i.bytes))=some (some z,size,bytes)):∃i,prog.info? e=some i/\i.zero=some z/\i.size=size/\i.bytes=bytes:=by
 cases d: prog.info? e with
 |none=>rw[d] at hi;cases hi
 |some i=>rw[d] at hi;simp at hi;exact⟨i,rfl,hi.1,hi.2.1,hi.2.2⟩
theorem Rb.of_own{w:World}{B n:Nat}{v:Value}{bs:List UInt8}(h:w.ownsRow B 5 1 v n (bs.map λu=>Value.int .u8 (u.toNat:Int)))(y:0<n):∃g cp,v=.slice (some ⟨g,0,none⟩) n cp/\bs.length=n/\B<=g/\Rb w g cp bs:=by
 obtain⟨k,q⟩:=h;rw[Ah,Bq] at k;rcases q with⟨_,q⟩|⟨g,cp,i,rfl,s,d,x,r,hs,p⟩
 · omega
 · rw[Bq] at hs p
   refine⟨g,cp,rfl,k,s,(qW.1 d).1,by omega,λj f=> ?_,λj f=> ?_,λj u m=> ?_,λo l=>by rw[d] at l;cases l;rfl⟩
   · rw[cell_of_row _ _ _ _ _ _ d,Array.getElem?_eq_getElem (by omega)];rfl
   · simp[World.frozen?,d]
   · rw[cell_of_row _ _ _ _ _ _ d]
     have f:j<n:=(by have:=(An.1 m).1;omega);have e:(i.toList.take n)[j]? =some (Value.int .u8 (u.toNat:Int)):=(by rw[p,Am,m];rfl);rw[AD,A7 f,BM] at e;exact e
theorem run_bytes(w:World)(s:ByteArray)(hs:s.size<=100000000):∃cp e,(convert 9 26 (.string s)).run prog w=.ok (.slice (some ⟨w.heap.size,0,none⟩) s.size cp) e/\Rb e w.heap.size cp s.data.toList/\Below w.heap.size w e/\e.heap.size=w.heap.size+1:=by
 refine⟨_,_,Lib.run_convert_string_bytes (P:= prog) w 9 26 5 s underlying9 underlying26 underlying5,?_,?_,Lib.bytesWorld_size w _ s⟩
 · have m:=grownCap_ge w s.size 0 5
   have n:(Lib.bytesCells w 5 s).size=grownCap w s.size 0 5 :=by
    unfold Lib.bytesCells;have:s.data.size=s.size:=rfl;simp;omega
   have d:=Lib.bytesWorld_at_new w 5 s;refine⟨by rw[Lib.bytesWorld_size];omega,by have:s.data.toList.length=s.size:=As;omega,λj f=> ?_,λj f=> ?_,λj u i=> ?_,λo h=>by rw[d] at h;cases h;rfl⟩
   · rw[cell_of_row _ _ _ _ _ _ d,Array.getElem?_eq_getElem (by omega)];rfl
   · simp only[World.frozen?,d,Bool.and_eq_false_iff,decide_eq_false_iff_not];left;omega
   · have f:j<s.size:=by have:=(An.1 i).1;rwa [As] at this
     rw[Lib.bytesWorld_cell w _ s j f,List.getD,i];rfl
 · exact⟨rfl,rfl,rfl,by rw[Lib.bytesWorld_size];omega,λk l=>Lib.bytesWorld_at_old w _ s k l⟩
theorem conv_rb{w:World}{g cp c:Nat}{bs:List UInt8}(h:Rb w g cp bs)(o n:Nat)(j:bs.length=n)(k:o<=n)(d:Addr)(f:o<n->d=⟨g,o,none⟩):
 (convert 26 9 (.slice (some d) (n - o) c)).run prog w=.ok (.string ⟨(bs.drop o).toArray⟩) w:=by
 have e:(bs.drop o).length=n - o:=(by rw[AF,j]);have:=run_convert_bytes_back (P:= prog) w 26 9 5 d c (bs.drop o) underlying26 underlying5 underlying9 (λi hi=>by
  rw[e] at hi;rw[f (by omega),cadd_at];exact h.byte (o+i) _ (by rw[<-Bm];exact qE _))
 rw[e] at this;exact this
end V.Tx
namespace V.Tx
open Go Go.RowKit M
open Go.ChangeShapes (lits)
theorem qf(l n d:Int)(w:World):
 Calls prog 232 #[.agg #[.int .u8 l,.int .i64 n,.int .i64 d]] w λe w'=>e=.returned (.int .i64 (szo ⟨l,n,d⟩:Nat))/\Below w.heap.size w w':=by
 have j:=ic l n d;have r:=fB l n d;have C:=R3.new w 139 (.int .u8 l) (.int .i64 n) (.int .i64 d);have A:=C.lt;have B:Below w.heap.size w (w.alloc (.cells #[.int .u8 l,.int .i64 n,.int .i64 d] 139)):=qL;obtain⟨I,k⟩:=qh2 C B;clear C B;by_cases p:isB ⟨l,n,d⟩=true
 · rw[szo_byte p]
   rw[p] at j;clear p;have x:=qH j;clear j r;go_enter func232,ntmps232;go_wp2_with (go_at_call 229;refine(x.o _).mono ?_;rintro e J ⟨rfl,i⟩;have y:=qH (k.o.trans (i.mono (by simp)));clear i);go_ret;exact⟨rfl,y.o⟩
 · have s:isB ⟨l,n,d⟩=false:=by simpa using p
   rw[s] at j;by_cases q:isM ⟨l,n,d⟩=true
   · rw[szo_match q]
     have K:((n.toNat:Nat):Int)=n:=(by have:=isM_iff.1 q;simp only at this;omega);show Calls _ _ _ _ λe w'=>e=.returned (.int .i64 ((n.toNat:Nat):Int))/\_
     rw[K];rw[q] at r;obtain⟨x,F⟩:=qh2 j r;clear j r K p s q;go_enter func232,ntmps232;go_wp2_with (go_at_call 229;refine(x.o _).mono ?_;rintro e J ⟨rfl,i⟩;have h:=I.o.below i A;have c0:=h.at0;have c1:=h.at1;have M:=h.at2;have E:=qH h;have z:=h.lt;have y:=qH (k.o.trans (i.mono (by simp)));clear i h);go_wp2_with (go_at_call 230;refine(F.o _).mono ?_;rintro e N ⟨rfl,u⟩;have m:=E.o.below u z;have O:=m.at0;have L:=m.at1;have D:=qbt y u;clear u m);go_ret;exact⟨rfl,D.o⟩
   · have v:isM ⟨l,n,d⟩=false:=by simpa using q
     have G:szo ⟨l,n,d⟩=0:=(by unfold szo;rw[A0 p,A0 q]);rw[G];rw[v] at r;obtain⟨x,F⟩:=qh2 j r;clear j r p s q v G;go_enter func232,ntmps232;go_wp2_with (go_at_call 229;refine(x.o _).mono ?_;rintro e J ⟨rfl,i⟩;have h:=I.o.below i A;have c0:=h.at0;have c1:=h.at1;have M:=h.at2;have y:=qH (k.o.trans (i.mono (by simp)));clear i h);go_wp2_with (go_at_call 230;refine(F.o _).mono ?_;rintro e N ⟨rfl,u⟩;have D:=qbt y u;clear u);go_ret;exact⟨rfl,D.o⟩
