/- Texts of one place, one behind the other: T9Tok, T9TkA, T9TkB. -/
import Derived.Test.YtacelhaidcmbcaaGreatDoorTMMathT
import Derived.Test.YtacelhaidcmbcaaGreatDoorTMRns
import Derived.Test.YtacelhaidcmbcaaGreatDoorChecked
import Derived.KernelRfl
import Derived.Deep.OwnRows
import Derived.WalkKit
import Derived.Deep.Slices
import Derived.Deep.Fields
import Derived.SizedLaws
import Derived.Laws.IdiomStrings
import Derived.Lib.ConvBytes
import Derived.ArgAppend
import Derived.Laws.OwnMore
import Derived.Deep.AppendLies
import Derived.RangeFuncOwn
import Derived.Lib.Hide
import Derived.Outline
import Derived.Deep.RegionLaw
import Derived.RegionTactic
import Derived.BigRegion
import Derived.BigQuiet
import Derived.Deep.QuietTactic
import Derived.ChangeAlike
import Derived.Laws.Cells
import Derived.WalkSpells
import Derived.WalkMore
import Derived.IntWalk
set_option maxHeartbeats 8000000
set_option maxRecDepth 1000000
set_option linter.unusedVariables false
set_option linter.unusedSimpArgs false
namespace Go.Proofs.YtacelhaidcmbcaaGreatDoor.V.Tx
open Go Go.RowKit M
open Go.ChangeShapes Go.WideShapes Go.Deep
section
variable {H:Type} {enc:TypeId×Value→H} {w:World} {spare:Nat→Bool} {held:Bool}
end
def three(a b c:Value)(i:Nat):Value:=if i=0 then a else if i=1 then b else c
def R3(w:World)(T:TypeId)(g:Nat)(a b c:Value):Prop:=w.rowIs g T 3 (three a b c)
section
variable {w w':World} {T:TypeId} {g:Nat} {a b c:Value}
theorem R3.new(w:World)(T:TypeId)(a b c:Value):R3 (w.alloc (.cells #[a,b,c] T)) T w.heap.size a b c:=⟨#[a,b,c],heap_alloc_new _ _,rfl,fun i hi=>by
 match i,hi with
 |0,_=>rfl
 |1,_=>rfl
 |2,_=>rfl⟩
theorem R3.lt(h:R3 w T g a b c):g<w.heap.size:=World.rowIs.lt h
theorem R3.at0(h:R3 w T g a b c):w.cell? ⟨g,0,none⟩=some a:=World.rowIs.cell h (i:=0) (by omega)
theorem R3.at1(h:R3 w T g a b c):w.cell? ⟨g,1,none⟩=some b:=World.rowIs.cell h (i:=1) (by omega)
theorem R3.at2(h:R3 w T g a b c):w.cell? ⟨g,2,none⟩=some c:=World.rowIs.cell h (i:=2) (by omega)
theorem R3.of_block(h:R3 w T g a b c)(e:w'.heap[g]? =w.heap[g]?):R3 w' T g a b c:=World.rowIs.of_block h e
theorem R3.below(h:R3 w T g a b c){B:Nat}(hb:Below B w w')(hB:g<B):R3 w' T g a b c:=World.rowIs.of_block h (hb.block g hB)
end
section
variable {w w':World} {g cp:Nat} {bs:List UInt8}
end
end Go.Proofs.YtacelhaidcmbcaaGreatDoor.V.Tx
namespace Go.Proofs.YtacelhaidcmbcaaGreatDoor.V.Tx
open Go.Lib (hid)
open Go Go.RowKit M
open Go.ChangeShapes (lits)
theorem z8T(l n d:Int)(w:World):
 Calls Tryz.prog 94 #[.agg #[.int .u8 l,.int .i64 n,.int .i64 d]] w fun e w'=>e=.returned (.int .i64 (szo ⟨l,n,d⟩:Nat))∧Below w.heap.size w w':=by
 have hB:=z4e l n d;have hM:=z3f l n d;have hR:=R3.new w 64 (.int .u8 l) (.int .i64 n) (.int .i64 d);have hlt:=hR.lt;have hb0:Below w.heap.size w (w.alloc (.cells #[.int .u8 l,.int .i64 n,.int .i64 d] 64)):=qL;have HR:=hid hR;have HB0:=hid hb0;clear hR hb0;by_cases h1:isB ⟨l,n,d⟩=true
 · rw[szo_byte h1]
   rw[h1] at hB;clear h1;have HB:=hid hB;clear hB hM;go_enter Tryz.func94,Tryz.ntmps94;go_wp2_with (go_at_call 91;refine(HB.out _).mono ?_;rintro e w1 ⟨rfl,b1⟩;have B1:=hid (HB0.out.trans (b1.mono (by simp)));clear b1);go_ret;exact⟨rfl,B1.out⟩
 · have h1':isB ⟨l,n,d⟩=false:=by simpa using h1
   rw[h1'] at hB;by_cases h2:isM ⟨l,n,d⟩=true
   · rw[szo_match h2]
     have hn:((n.toNat:Nat):Int)=n:=by have:=z0G.1 h2;simp only at this;omega
     show Calls _ _ _ _ fun e w'=>e=.returned (.int .i64 ((n.toNat:Nat):Int))∧_
     rw[hn];rw[h2] at hM;have HB:=hid hB;have HM:=hid hM;clear hB hM hn h1 h1' h2;go_enter Tryz.func94,Tryz.ntmps94;go_wp2_with (go_at_call 91;refine(HB.out _).mono ?_;rintro e w1 ⟨rfl,b1⟩;have hR1:=HR.out.below b1 hlt;have c0:=hR1.at0;have c1:=hR1.at1;have c2:=hR1.at2;have HR1:=hid hR1;have hlt1:=hR1.lt;have B1:=hid (HB0.out.trans (b1.mono (by simp)));clear b1 hR1);go_wp2_with (go_at_call 92;refine(HM.out _).mono ?_;rintro e w2 ⟨rfl,b2⟩;have hR2:=HR1.out.below b2 hlt1;have c0':=hR2.at0;have c1':=hR2.at1;have B2:=hid (B1.out.trans (b2.mono B1.out.size));clear b2 hR2);go_ret;exact⟨rfl,B2.out⟩
   · have h2':isM ⟨l,n,d⟩=false:=by simpa using h2
     have hv:szo ⟨l,n,d⟩=0:=by unfold szo;rw[if_neg h1,if_neg h2]
     rw[hv];rw[h2'] at hM;have HB:=hid hB;have HM:=hid hM;clear hB hM h1 h1' h2 h2' hv;go_enter Tryz.func94,Tryz.ntmps94;go_wp2_with (go_at_call 91;refine(HB.out _).mono ?_;rintro e w1 ⟨rfl,b1⟩;have hR1:=HR.out.below b1 hlt;have c0:=hR1.at0;have c1:=hR1.at1;have c2:=hR1.at2;have B1:=hid (HB0.out.trans (b1.mono (by simp)));clear b1 hR1);go_wp2_with (go_at_call 92;refine(HM.out _).mono ?_;rintro e w2 ⟨rfl,b2⟩;have B2:=hid (B1.out.trans (b2.mono B1.out.size));clear b2);go_ret;exact⟨rfl,B2.out⟩
theorem zcK(L:List Tk)(i:Nat)(hi:i<L.length):szs (L.take (i+1))=szs (L.take i)+szo (L.getD i default):=by
 rw[z1B L i hi,szs_append];simp[szs]
theorem rsize_any(A:Option Addr)(n c:Nat)(L:List Tk)(w:World)(h:IsTks w A n L)(hn:n≤1000000):
 Calls Tryz.prog 33 #[.slice A n c] w fun e w'=>e=.returned (.int .i64 (szs L:Nat))∧Below w.heap.size w w':=by
 have HH:=hid h;have hl:=h.leng;clear h;go_enter Tryz.func33,Tryz.ntmps33;go_wp2_with fail
 go_loopw [3,4] (fun s i wr=> ∃k:Nat,k≤n∧i=.int .i64 k∧s=.int .i64 (szs (L.take k):Nat)∧Below w.heap.size w wr) (fun s i _=>n - (intOf i).toNat)
 case atStart=>exact⟨0,qZ,rfl,rfl,Below.refl _ _⟩
 case round=>
  obtain⟨k,hk,rfl,rfl,hb⟩:=hrel;by_cases hlt:k<n
  · obtain⟨b,o,rfl,hbl,hc⟩:=(HH.out.below hb).at (by omega)
    obtain⟨c0,c1,c2⟩:=hc k hlt;have hs:=zcK L k (by omega);have hle:=szs_le (L.take k);rw[List.length_take] at hle;obtain⟨t,ht⟩:∃t,L.getD k default=t:=⟨_,rfl⟩
    rw[ht] at c0 c1 c2 hs;obtain⟨tl,tn,td⟩:=t;simp only at c0 c1 c2;have hM:=z7E tl tn td;obtain⟨S,hS⟩:∃S,szs (L.take k)=S:=⟨_,rfl⟩
    rw[hS] at hs hle ⊢;have hk2:k<9223372036854775807:=by omega
    have hS2:S≤258*1000000:=by omega
    by_cases q:may ⟨tl,tn,td⟩=true
    · rw[q] at hM
      have HM:=hid hM;have hsz:=z9W ⟨tl,tn,td⟩
      obtain⟨m,hm,hm2⟩:∃m:Nat,(if tn<1 then(1:Int) else tn)=(m:Int)∧szo ⟨tl,tn,td⟩=m:=by
       refine⟨szo ⟨tl,tn,td⟩,?_,rfl⟩;unfold may at q;rw[Bool.or_eq_true] at q;rcases q with q|q
       · rw[szo_byte q];have:=z0v.1 q;simp only at this;rw[if_pos (by omega)];rfl
       · rw[szo_match q];have:=z0G.1 q;simp only at this;rw[if_neg (by omega)];simp only;omega
      rw[hm2] at hs hsz;have HS:=hid hs;have HB:=hid hb;clear hM q hs hb hc ht hS hm2 hle hl;go_wp2_with (go_at_call 54;refine(HM.out _).mono ?_;rintro e w1 ⟨rfl,b1⟩;have k1:=(b1.cell (p:=⟨b,o+k*3+1,none⟩) hbl).trans c1;have B1:=hid (HB.out.trans (b1.mono HB.out.size));clear b1);go_roundw
      case rel=>exact⟨k+1,by omega,by go_num,by rw[HS.out];go_num,B1.out⟩
      case measure=>simp[intOf];omega
    · have q':may ⟨tl,tn,td⟩=false:=by simpa using q
      rw[q'] at hM;have HM:=hid hM
      have hz:szo ⟨tl,tn,td⟩=0:=by
       unfold may at q';rw[Bool.or_eq_false_iff] at q';unfold szo;rw[q'.1,q'.2];rfl
      rw[hz,Nat.add_zero] at hs;have HS:=hid hs;have HB:=hid hb;clear hM q q' hz hs hb hc ht hS hle hl;go_wp2_with (go_at_call 54;refine(HM.out _).mono ?_;rintro e w1 ⟨rfl,b1⟩;have B1:=hid (HB.out.trans (b1.mono HB.out.size));clear b1);go_roundw
      case rel=>exact⟨k+1,by omega,by go_num,by rw[HS.out,Nat.add_zero],B1.out⟩
      case measure=>simp[intOf];omega
  · obtain rfl:k=n:=by omega
    have hS:szs (L.take k)=szs L:=by rw[List.take_of_length_le (by omega)]
    rw[hS];have HB:=hid hb;clear hS hb hl;go_wp2_with fail;go_ret;exact⟨rfl,HB.out⟩
end Go.Proofs.YtacelhaidcmbcaaGreatDoor.V.Tx
