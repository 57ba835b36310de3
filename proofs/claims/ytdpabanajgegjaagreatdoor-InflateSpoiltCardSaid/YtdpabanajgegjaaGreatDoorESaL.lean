import Derived.Test.YtdpabanajgegjaaGreatDoorEMSaA
import Derived.LoopNIn
import Derived.Lib.Hide
namespace Go.Proofs.YtdpabanajgegjaaGreatDoor.U
open Go Go.RowKit M
set_option linter.unusedVariables false
set_option maxRecDepth 1000000
set_option linter.unusedSimpArgs false
set_option maxRecDepth 1000000 in
theorem lengthOf_any(A:Option Addr)(n c:Nat)(l:List Nat)(s:Nat)(w:World)(H:IsBys w A n l)(hs:s<19)(hn:s=16→0<n)(hn2:n≤1000000):Calls Tryz.prog 204 #[.int .u8 s,.slice A n c] w fun e w'=>e=.returned (.int .u8 (vlr l ⟨s,0⟩:Nat))∧w=w':=by
 by_cases h16:s=16
 · subst h16
   obtain⟨q,hq⟩:∃q,n=q+1:=⟨n - 1,by have:=hn rfl;omega⟩
   obtain⟨b,o,rfl,hbb,hc⟩:=H.at (by omega);have c0:=hc q (by omega)
   have hv:vlr l ⟨16,0⟩=l.getD q 0:=by
    unfold vlr;rw[if_pos rfl];have hne:l≠[]:=fun e=>by have:=H.leng;rw[e] at this;simp at this;omega
    rw[List.getLastD_eq_getLast?,List.getLast?_eq_getElem?,List.getD,H.leng,hq,Nat.add_sub_cancel]
   rw[hv];obtain⟨x,hx⟩:∃x,l.getD q 0=x:=⟨_,rfl⟩
   rw[hx] at c0 ⊢;subst hq;have e1:(((q+1:Nat):Int) - 1)=(q:Int):=by omega
   clear hv hx hc H hn;go_enter Tryz.func204,Tryz.ntmps204;go_wp2_with fail;go_ret;exact⟨rfl,rfl⟩
 · have e1:((s:Int)==16)=false:=by rw[beq_eq_false_iff_ne];omega
   have e1':(s==16)=false:=by rw[beq_eq_false_iff_ne];exact h16
   clear hn H;by_cases h17:s=17
   · subst h17
     clear h16 e1 e1';go_enter Tryz.func204,Tryz.ntmps204;go_wp2_with fail;go_ret;exact⟨rfl,rfl⟩
   · by_cases h18:s=18
     · subst h18
       clear h16 e1 e1' h17;go_enter Tryz.func204,Tryz.ntmps204;go_wp2_with fail;go_ret;exact⟨rfl,rfl⟩
     · have hv:vlr l ⟨s,0⟩=s:=by unfold vlr;simp only;rw[if_neg h16,if_neg (by omega)]
       rw[hv];have e2:((s:Int)==17)=false:=by rw[beq_eq_false_iff_ne];omega
       have e2':(s==17)=false:=by rw[beq_eq_false_iff_ne];exact h17
       have e3:((s:Int)==18)=false:=by rw[beq_eq_false_iff_ne];omega
       have e3':(s==18)=false:=by rw[beq_eq_false_iff_ne];exact h18
       clear h16 h17 h18 hv;go_enter Tryz.func204,Tryz.ntmps204;go_wp2_with fail;go_ret;exact⟨rfl,rfl⟩
end Go.Proofs.YtdpabanajgegjaaGreatDoor.U
