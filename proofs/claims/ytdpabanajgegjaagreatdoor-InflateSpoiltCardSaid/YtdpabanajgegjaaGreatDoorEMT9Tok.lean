/- Texts of one place, one behind the other: T9Tok, T9TkB. -/
import Derived.Test.YtdpabanajgegjaaGreatDoorEMMathT
import Derived.Test.YtdpabanajgegjaaGreatDoorEMRns
import Derived.Test.YtdpabanajgegjaaGreatDoorChecked
import Derived.KernelRfl
import Derived.Deep.OwnRows
import Derived.WalkKit
import Derived.Deep.Slices
import Derived.Deep.Fields
import Derived.SizedLaws
import Derived.Laws.IdiomStrings
import Derived.Lib.ConvBytes
import Derived.ArgAppend
import Derived.Laws.OwnMore
import Derived.Deep.AppendLies
import Derived.RangeFuncOwn
import Derived.Lib.Hide
import Derived.Outline
import Derived.Deep.RegionLaw
import Derived.RegionTactic
import Derived.BigRegion
import Derived.BigQuiet
import Derived.Deep.QuietTactic
import Derived.ChangeAlike
import Derived.Laws.Cells
import Derived.WalkSpells
import Derived.WalkMore
import Derived.IntWalk
set_option maxRecDepth 1000000
set_option linter.unusedVariables false
set_option linter.unusedSimpArgs false
namespace Go.Proofs.YtdpabanajgegjaaGreatDoor.V.Tx
open Go Go.RowKit M
open Go.ChangeShapes Go.WideShapes Go.Deep
section
variable {H:Type} {enc:TypeId×Value→H} {w:World} {spare:Nat→Bool} {held:Bool}
end
section
variable {w w':World} {T:TypeId} {g:Nat} {a b c:Value}
end
structure Rb(w:World)(g cp:Nat)(bs:List UInt8):Prop where
 lt:g<w.heap.size
 nc:bs.length≤cp
 room:∀j,j<cp→(w.cell? ⟨g,j,none⟩).isSome=true
 free:∀j,j<cp→w.frozen? ⟨g,j,none⟩=false
 byte:∀j u,bs[j]? =some u→w.cell? ⟨g,j,none⟩=some (.int .u8 (u.toNat:Int))
 obj:∀o:Obj,w.heap[g]? =some o→o.isCells=true
section
variable {w w':World} {g cp:Nat} {bs:List UInt8}
end
theorem byteInfo:(Tryz.prog.info? 5).map (fun i=>(i.zero,i.size,i.bytes))=some (some (.int .u8 0),1,1):=by kernel_rfl
theorem info_of{e:TypeId}{z:Value}{size bytes:Nat}(hi:(Tryz.prog.info? e).map (fun i=>(i.zero,i.size,i.bytes))=some (some z,size,bytes)):∃i,Tryz.prog.info? e=some i∧i.zero=some z∧i.size=size∧i.bytes=bytes:=by
 cases hq: Tryz.prog.info? e with
 |none=>rw[hq] at hi;cases hi
 |some i=>rw[hq] at hi;simp at hi;exact⟨i,rfl,hi.1,hi.2.1,hi.2.2⟩
theorem Rb.of_own{w:World}{B n:Nat}{v:Value}{bs:List UInt8}(h:w.ownsRow B 5 1 v n (bs.map fun u=>Value.int .u8 (u.toNat:Int)))(hn:0<n):∃g cp,v=.slice (some ⟨g,0,none⟩) n cp∧bs.length=n∧B≤g∧Rb w g cp bs:=by
 obtain⟨h1,h2⟩:=h;rw[List.length_map,Nat.mul_one] at h1;rcases h2 with⟨_,h2⟩|⟨g,cp,cur,rfl,hg,hh,hnc,hcm,hs,ht⟩
 · omega
 · rw[Nat.mul_one] at hs ht
   refine⟨g,cp,rfl,h1,hg,(Array.getElem?_eq_some_iff.1 hh).1,by omega,fun j hj=> ?_,fun j hj=> ?_,fun j u hu=> ?_,fun o ho=>by rw[hh] at ho;cases ho;rfl⟩
   · rw[cell_of_row _ _ _ _ _ _ hh,Array.getElem?_eq_getElem (by omega)];rfl
   · simp[World.frozen?,hh]
   · rw[cell_of_row _ _ _ _ _ _ hh]
     have hj:j<n:=by have:=(List.getElem?_eq_some_iff.1 hu).1;omega
     have e:(cur.toList.take n)[j]? =some (Value.int .u8 (u.toNat:Int)):=by rw[ht,List.getElem?_map,hu];rfl
     rw[List.getElem?_take,if_pos hj,Array.getElem?_toList] at e;exact e
theorem run_bytes(w:World)(s:ByteArray)(hs:s.size≤100000000):∃cp W',(convert 9 23 (.string s)).run Tryz.prog w=.ok (.slice (some ⟨w.heap.size,0,none⟩) s.size cp) W'∧Rb W' w.heap.size cp s.data.toList∧Below w.heap.size w W'∧W'.heap.size=w.heap.size+1:=by
 refine⟨_,_,Lib.run_convert_string_bytes (P:= Tryz.prog) w 9 23 5 s Tryz.underlying9 Tryz.underlying23 Tryz.underlying5,?_,?_,Lib.bytesWorld_size w _ s⟩
 · have hge:=grownCap_ge w s.size 0 5
   have hz:(Lib.bytesCells w 5 s).size=grownCap w s.size 0 5 :=by
    unfold Lib.bytesCells;have:s.data.size=s.size:=rfl;simp;omega
   have hat:=Lib.bytesWorld_at_new w 5 s;refine⟨by rw[Lib.bytesWorld_size];omega,by have:s.data.toList.length=s.size:=Array.length_toList;omega,fun j hj=> ?_,fun j hj=> ?_,fun j u hu=> ?_,fun o ho=>by rw[hat] at ho;cases ho;rfl⟩
   · rw[cell_of_row _ _ _ _ _ _ hat,Array.getElem?_eq_getElem (by omega)];rfl
   · simp only[World.frozen?,hat,Bool.and_eq_false_iff,decide_eq_false_iff_not];left;omega
   · have hj:j<s.size:=by have:=(List.getElem?_eq_some_iff.1 hu).1;rwa [Array.length_toList] at this
     rw[Lib.bytesWorld_cell w _ s j hj,List.getD,hu];rfl
 · exact⟨rfl,rfl,rfl,by rw[Lib.bytesWorld_size];omega,fun k hk=>Lib.bytesWorld_at_old w _ s k hk⟩
theorem conv_rb{w:World}{g cp c:Nat}{bs:List UInt8}(h:Rb w g cp bs)(o n:Nat)(hn:bs.length=n)(ho:o≤n)(ad:Addr)(ha:o<n→ad=⟨g,o,none⟩):
 (convert 23 9 (.slice (some ad) (n - o) c)).run Tryz.prog w=.ok (.string ⟨(bs.drop o).toArray⟩) w:=by
 have hl:(bs.drop o).length=n - o:=by rw[List.length_drop,hn]
 have:=run_convert_bytes_back (P:= Tryz.prog) w 23 9 5 ad c (bs.drop o) Tryz.underlying23 Tryz.underlying5 Tryz.underlying9 (fun i hi=>by
  rw[hl] at hi;rw[ha (by omega),cadd_at];exact h.byte (o+i) _ (by rw[←List.getElem?_drop];exact List.getElem?_eq_getElem _))
 rw[hl] at this;exact this
end Go.Proofs.YtdpabanajgegjaaGreatDoor.V.Tx
namespace Go.Proofs.YtdpabanajgegjaaGreatDoor.V.Tx
open Go.Lib (hid)
open Go Go.RowKit M
open Go.ChangeShapes (lits)
theorem szs_take(L:List Tk)(i:Nat)(hi:i<L.length):szs (L.take (i+1))=szs (L.take i)+szo (L.getD i default):=by
 rw[getD_take_succ L i hi,szs_append];simp[szs]
set_option maxRecDepth 1000000 in
set_option maxHeartbeats 1000000 in
theorem rsize_any(A:Option Addr)(n c:Nat)(L:List Tk)(w:World)(h:IsTks w A n L)(hn:n≤1000000):
 Calls Tryz.prog 44 #[.slice A n c] w fun e w'=>e=.returned (.int .i64 (szs L:Nat))∧Below w.heap.size w w':=by
 have HH:=hid h;have hl:=h.leng;clear h;go_enter Tryz.func44,Tryz.ntmps44;go_wp2_with fail
 go_loopw [3,4] (fun s i wr=> ∃k:Nat,k≤n∧i=.int .i64 k∧s=.int .i64 (szs (L.take k):Nat)∧Below w.heap.size w wr) (fun s i _=>n - (intOf i).toNat)
 case atStart=>exact⟨0,Nat.zero_le _,rfl,rfl,Below.refl _ _⟩
 case round=>
  obtain⟨k,hk,rfl,rfl,hb⟩:=hrel;by_cases hlt:k<n
  · obtain⟨b,o,rfl,hbl,hc⟩:=(HH.out.below hb).at (by omega)
    obtain⟨c0,c1,c2⟩:=hc k hlt;have hs:=szs_take L k (by omega);have hle:=szs_le (L.take k);rw[List.length_take] at hle;obtain⟨t,ht⟩:∃t,L.getD k default=t:=⟨_,rfl⟩
    rw[ht] at c0 c1 c2 hs;obtain⟨tl,tn,td⟩:=t;simp only at c0 c1 c2;have hM:=rmay_any tl tn td;obtain⟨S,hS⟩:∃S,szs (L.take k)=S:=⟨_,rfl⟩
    rw[hS] at hs hle ⊢;have hk2:k<9223372036854775807:=by omega
    have hS2:S≤258*1000000:=by omega
    by_cases q:may ⟨tl,tn,td⟩=true
    · rw[q] at hM
      have HM:=hid hM;have hsz:=szo_le ⟨tl,tn,td⟩
      obtain⟨m,hm,hm2⟩:∃m:Nat,(if tn<1 then(1:Int) else tn)=(m:Int)∧szo ⟨tl,tn,td⟩=m:=by
       refine⟨szo ⟨tl,tn,td⟩,?_,rfl⟩;unfold may at q;rw[Bool.or_eq_true] at q;rcases q with q|q
       · rw[szo_byte q];have:=isB_iff.1 q;simp only at this;rw[if_pos (by omega)];rfl
       · rw[szo_match q];have:=isM_iff.1 q;simp only at this;rw[if_neg (by omega)];simp only;omega
      rw[hm2] at hs hsz;have HS:=hid hs;have HB:=hid hb;clear hM q hs hb hc ht hS hm2 hle hl;go_wp2_with (go_at_call 64;refine(HM.out _).mono ?_;rintro e w1 ⟨rfl,b1⟩;have k1:=(b1.cell (p:=⟨b,o+k*3+1,none⟩) hbl).trans c1;have B1:=hid (HB.out.trans (b1.mono HB.out.size));clear b1);go_roundw
      case rel=>exact⟨k+1,by omega,by go_num,by rw[HS.out];go_num,B1.out⟩
      case measure=>simp[intOf];omega
    · have q':may ⟨tl,tn,td⟩=false:=by simpa using q
      rw[q'] at hM;have HM:=hid hM
      have hz:szo ⟨tl,tn,td⟩=0:=by
       unfold may at q';rw[Bool.or_eq_false_iff] at q';unfold szo;rw[q'.1,q'.2];rfl
      rw[hz,Nat.add_zero] at hs;have HS:=hid hs;have HB:=hid hb;clear hM q q' hz hs hb hc ht hS hle hl;go_wp2_with (go_at_call 64;refine(HM.out _).mono ?_;rintro e w1 ⟨rfl,b1⟩;have B1:=hid (HB.out.trans (b1.mono HB.out.size));clear b1);go_roundw
      case rel=>exact⟨k+1,by omega,by go_num,by rw[HS.out,Nat.add_zero],B1.out⟩
      case measure=>simp[intOf];omega
  · obtain rfl:k=n:=by omega
    have hS:szs (L.take k)=szs L:=by rw[List.take_of_length_le (by omega)]
    rw[hS];have HB:=hid hb;clear hS hb hl;go_wp2_with fail;go_ret;exact⟨rfl,HB.out⟩
end Go.Proofs.YtdpabanajgegjaaGreatDoor.V.Tx
