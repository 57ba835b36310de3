/- Texts of one place, one behind the other: Rns, RuA, RuB, RuC, RuT, BwA, BwB, BwC, BwD, BwT, BwS, BwY, BwO, T9MathT. -/
import Derived.Test.YtdpabanajgegjaaGreatDoorEMMathT
import Derived.Test.YtdpabanajgegjaaGreatDoorEMMaR
import Derived.Test.YtdpabanajgegjaaGreatDoorChecked
import Derived.KernelRfl
import Derived.Deep.OwnRows
import Derived.WalkKit
import Derived.Deep.Slices
import Derived.Deep.Fields
import Derived.SizedLaws
import Derived.Laws.OwnMore
import Derived.Deep.AppendLies
import Derived.Lib.Hide
import Derived.Outline
import Derived.Deep.RegionLaw
import Derived.RegionTactic
import Derived.BigRegion
import Derived.BigQuiet
import Derived.Deep.QuietTactic
import Derived.ChangeAlike
import Derived.Laws.Cells
import Derived.OwnWalk
import Derived.WalkSpells
import Derived.WalkMore
import Derived.IntWalk
import Derived.Test.YtdpabanajgegjaaGreatDoorEMRsA
set_option linter.unusedVariables false
set_option linter.unusedSimpArgs false
set_option maxRecDepth 1000000
namespace Go.Proofs.YtdpabanajgegjaaGreatDoor.U
open Go Go.RowKit M
open Go.ChangeShapes Go.WideShapes Go.Deep
theorem nadd_at(b o j:Nat):(⟨b,o,none⟩:Addr).add j=⟨b,o+j,none⟩:=by
 unfold Addr.add
 split
 · rename_i h;subst h;rfl
 · rfl
theorem info_of{e:TypeId}{z:Value}{size bytes:Nat}(hi:(Tryz.prog.info? e).map (fun i=>(i.zero,i.size,i.bytes))=some (some z,size,bytes)):∃i,Tryz.prog.info? e=some i∧i.zero=some z∧i.size=size∧i.bytes=bytes:=by
 cases hq: Tryz.prog.info? e with
 |none=>rw[hq] at hi;cases hi
 |some i=>rw[hq] at hi;simp at hi;exact⟨i,rfl,hi.1,hi.2.1,hi.2.2⟩
theorem byteInfo:(Tryz.prog.info? 5).map (fun i=>(i.zero,i.size,i.bytes))=some (some (.int .u8 0),1,1):=by kernel_rfl
theorem runInfo:(Tryz.prog.info? 134).map (fun i=>(i.zero,i.size,i.bytes))=some (some (.agg #[.int .u8 0,.int .u8 0]),2,2):=by kernel_rfl
structure IsBys(w:World)(A:Option Addr)(n:Nat)(l:List Nat):Prop where
 leng:l.length=n
 most:n≤maxLen
 good:∀x∈l,x≤255
 cells:n=0∨∃b o,A=some ⟨b,o,none⟩∧b<w.heap.size∧∀ (i x:Nat),l[i]? =some x→w.cell? ⟨b,o+i,none⟩=some (.int .u8 (x:Int))
section
variable {w w':World} {A:Option Addr} {n:Nat} {l:List Nat}
theorem IsBys.below(h:IsBys w A n l)(hb:Below w.heap.size w w'):IsBys w' A n l:=by
 refine⟨h.leng,h.most,h.good,?_⟩;rcases h.cells with g|⟨b,o,g1,g2,g3⟩
 · exact .inl g
 · exact .inr ⟨b,o,g1,Nat.lt_of_lt_of_le g2 hb.size,fun i x hx=>(hb.cell g2).trans (g3 i x hx)⟩
theorem IsBys.nil(w:World)(A:Option Addr):IsBys w A 0 []:=⟨rfl,Nat.zero_le _,fun x hx=>absurd hx (by simp),.inl rfl⟩
theorem IsBys.at(h:IsBys w A n l)(hn:0<n):∃b o,A=some ⟨b,o,none⟩∧b<w.heap.size∧∀i,i<n→w.cell? ⟨b,o+i,none⟩=some (.int .u8 (l.getD i 0:Nat)):=by
 rcases h.cells with g|⟨b,o,g1,g2,g3⟩
 · omega
 · exact⟨b,o,g1,g2,fun i hi=>g3 i _ (by rw[List.getD,List.getElem?_eq_getElem (by rw[h.leng];exact hi)];rfl)⟩
theorem IsBys.le(h:IsBys w A n l)(i:Nat):l.getD i 0≤255:=by
 by_cases hi:i<l.length
 · rw[List.getD,List.getElem?_eq_getElem hi];exact h.good _ (List.getElem_mem _)
 · rw[List.getD,List.getElem?_eq_none (by omega)];exact Nat.zero_le _
end
def clb(l:List Nat):List Value:=l.map fun x:Nat=>Value.int .u8 (x:Int)
theorem clb_length(l:List Nat):(clb l).length=l.length:=by unfold clb;simp
theorem clb_append(l r:List Nat):clb (l++r)=clb l++clb r:=by unfold clb;simp
def Owb(B:Nat)(w:World)(v:Value)(l:List Nat):Prop:=w.ownsRow B 5 1 v l.length (clb l)
section
variable {B:Nat} {w w':World} {v:Value} {l:List Nat}
theorem Owb.nil(B:Nat)(w:World):Owb B w (.slice none 0 0) []:=World.ownsRow_nil w B _ 1
theorem Owb.alloc(h:Owb B w v l)(o:Obj):Owb B (w.alloc o) v l:=World.ownsRow.alloc h o
theorem Owb.at(h:Owb B w v l)(e:∀g,v.ownBlock=some g→w'.heap[g]? =w.heap[g]?):Owb B w' v l:=ownsRow_at h e
theorem Owb.lt(h:Owb B w v l):∀g,v.ownBlock=some g→B≤g∧g<w.heap.size:=World.ownsRow.lt h
theorem Owb.below(h:Owb B w v l)(hb:Below w.heap.size w w'):Owb B w' v l:=h.at fun g hg=>hb.block g (h.lt g hg).2
theorem Owb.bys(h:Owb B w v l)(hok:∀x∈l,x≤255)(hm:l.length≤maxLen):∃A c,v=.slice A l.length c∧IsBys w A l.length l:=by
 rcases h.2 with⟨rfl,h0⟩|⟨g,cap,cur,rfl,_,hh,_⟩
 · exact⟨none,0,by rw[h0],rfl,hm,hok,.inl h0⟩
 · refine⟨_,cap,rfl,rfl,hm,hok,.inr ⟨g,0,rfl,(Array.getElem?_eq_some_iff.1 hh).1,fun i x hx=> ?_⟩⟩
   have k:=h.cells (g:=g) rfl i (.int .u8 (x:Int)) (by unfold clb;rw[List.getElem?_map,hx];rfl);rw[nadd_at] at k;exact k
theorem Owb.ty(h:Owb B w v l):∀g,v.ownBlock=some g→∃cs,w.heap[g]? =some (.cells cs 5 (0,0)):=by
 intro g hg;rcases h.2 with⟨rfl,_⟩|⟨g',cap,cur,rfl,_,hh,_⟩
 · simp[Value.ownBlock] at hg
 · simp[Value.ownBlock] at hg;subst hg;exact⟨cur,hh⟩
end
theorem wpList_ab{ops:Array Oper}{rest:List Oper}{o:Oper}{a:Act}{w:World}{Q:Exit→Act→World→Prop}(hgd:o.guard=none)(s x:Operand)
 (ho:o.op=.call {callee:=.builtin .append,args:= #[s,x],argTypes:= #[23,23]}) (B:Nat) (v:Value) (l:List Nat) (hs:a.eval s=v) (h:Owb B w v l) (b c:Nat) (y:Nat)
 (hx:a.eval x=.slice (some ⟨b,0,none⟩) 1 c) (hc:w.cell? ⟨b,0,none⟩=some (.int .u8 (y:Int))) (hL:l.length≤3000000) (hB:B≤w.heap.size)
 (hK:∀v' w',Owb B w' v' (l++[y])→w.grownBy w' v.ownBlock→Below B w w'→wpList Tryz.prog ops Q rest (a.put o.dst v') w'):wpList Tryz.prog ops Q (o::rest) a w:=
 wpList_plain hgd fun K hK'=>by
  obtain⟨i,h1,h2,h3,h4⟩:=info_of byteInfo
  obtain⟨v',w',r1,r2,r3,_⟩:=run_append_own (P:= Tryz.prog) w B 23 o.type 5 i _ 1 1 Tryz.underlying23 h1 h2 h3 h4 rfl (by decide) v l.length (clb l) h ⟨b,0,none⟩ 1 c (clb [y]) rfl
   (fun j u hu=>by
    rw[nadd_at,Nat.zero_add]
    match j,hu with
    |0,hu=>simp[clb] at hu;subst hu;exact hc
    |j+1,hu=>simp[clb] at hu) (by intro u hu;simp[clb] at hu;rcases hu with rfl;rfl) (by unfold maxLen;omega) (by omega) hB
  unfold Oper.wp execOp;simp only[ho,resolve,invoke,builtin,Sem.run_bind,Sem.run_pure,Result.andThen_ok,List.map_toArray,List.map_cons,List.map_nil,hs,hx,r1];refine hK' _ _ (hK v' w' ?_ r3 ((Below.refl _ w).grown r3 hB (fun k hk=>(World.ownsRow.lt h k hk).1)));unfold Owb;rw[List.length_append,clb_append];exact r2
structure IsRns(w:World)(A:Option Addr)(n:Nat)(L:List Rn):Prop where
 leng:L.length=n
 most:n≤maxLen
 good:∀r∈L,r.s≤255∧r.e≤255
 cells:n=0∨∃b o,A=some ⟨b,o,none⟩∧b<w.heap.size∧∀ (i:Nat) (r:Rn),L[i]? =some r→w.cell? ⟨b,o+i*2,none⟩=some (.int .u8 (r.s:Int))∧w.cell? ⟨b,o+i*2+1,none⟩=some (.int .u8 (r.e:Int))
section
variable {w w':World} {A:Option Addr} {n:Nat} {L:List Rn}
theorem IsRns.below(h:IsRns w A n L)(hb:Below w.heap.size w w'):IsRns w' A n L:=by
 refine⟨h.leng,h.most,h.good,?_⟩;rcases h.cells with g|⟨b,o,g1,g2,g3⟩
 · exact .inl g
 · exact .inr ⟨b,o,g1,Nat.lt_of_lt_of_le g2 hb.size,fun i x hx=>⟨(hb.cell g2).trans (g3 i x hx).1,(hb.cell g2).trans (g3 i x hx).2⟩⟩
theorem IsRns.at(h:IsRns w A n L)(hn:0<n):∃b o,A=some ⟨b,o,none⟩∧b<w.heap.size∧∀i,i<n→w.cell? ⟨b,o+i*2,none⟩=some (.int .u8 ((L.getD i default).s:Nat))∧w.cell? ⟨b,o+i*2+1,none⟩=some (.int .u8 ((L.getD i default).e:Nat)):=by
 rcases h.cells with g|⟨b,o,g1,g2,g3⟩
 · omega
 · exact⟨b,o,g1,g2,fun i hi=>g3 i _ (by rw[List.getD,List.getElem?_eq_getElem (by rw[h.leng];exact hi)];rfl)⟩
theorem IsRns.le(h:IsRns w A n L)(i:Nat):(L.getD i default).s≤255∧(L.getD i default).e≤255:=by
 by_cases hi:i<L.length
 · rw[List.getD,List.getElem?_eq_getElem hi];exact h.good _ (List.getElem_mem _)
 · rw[List.getD,List.getElem?_eq_none (by omega)];exact⟨Nat.zero_le _,Nat.zero_le _⟩
end
section
variable {H:Type} {enc:TypeId×Value→H} {w:World} {spare:Nat→Bool} {held:Bool}
end
def clr:List Rn→List Value
 |[]=> []
 |t::l=> .int .u8 (t.s:Int)::.int .u8 (t.e:Int)::clr l
theorem clr_append:∀l r,clr (l++r)=clr l++clr r
 |[],_=>rfl
 |t::l,r=>by simp only[List.cons_append,clr];rw[clr_append l r]
theorem clr_at:∀ (l:List Rn) (i:Nat) (t:Rn),l[i]? =some t→(clr l)[i*2]? =some (.int .u8 (t.s:Int))∧(clr l)[i*2+1]? =some (.int .u8 (t.e:Int))
 |[],i,t,h=>by simp at h
 |a::l,0,t,h=>by simp at h;subst h;simp[clr]
 |a::l,i+1,t,h=>by
  rw[List.getElem?_cons_succ] at h;obtain⟨h1,h2⟩:=clr_at l i t h;simp only[clr];refine⟨?_,?_⟩
  · rw[show(i+1)*2=i*2+1+1 by omega];simpa using h1
  · rw[show(i+1)*2+1=i*2+1+1+1 by omega];simpa using h2
theorem clr_one:∀ (l:List Rn),∀u∈clr l,u.oneCell'=true
 |[],u,h=>by simp[clr] at h
 |t::l,u,h=>by
  simp only[clr,List.mem_cons] at h;rcases h with rfl|rfl|h
  · rfl
  · rfl
  · exact clr_one l u h
def Owr(B:Nat)(w:World)(v:Value)(L:List Rn):Prop:=w.ownsRow B 134 2 v L.length (clr L)
section
variable {B:Nat} {w w':World} {v:Value} {L:List Rn}
theorem Owr.nil(B:Nat)(w:World):Owr B w (.slice none 0 0) []:=World.ownsRow_nil w B _ 2
theorem Owr.alloc(h:Owr B w v L)(o:Obj):Owr B (w.alloc o) v L:=World.ownsRow.alloc h o
theorem Owr.at(h:Owr B w v L)(e:∀g,v.ownBlock=some g→w'.heap[g]? =w.heap[g]?):Owr B w' v L:=ownsRow_at h e
theorem Owr.lt(h:Owr B w v L):∀g,v.ownBlock=some g→B≤g∧g<w.heap.size:=World.ownsRow.lt h
theorem Owr.below(h:Owr B w v L)(hb:Below w.heap.size w w'):Owr B w' v L:=h.at fun g hg=>hb.block g (h.lt g hg).2
theorem Owr.rns(h:Owr B w v L)(hok:∀r∈L,r.s≤255∧r.e≤255)(hm:L.length≤maxLen):∃A c,v=.slice A L.length c∧IsRns w A L.length L:=by
 rcases h.2 with⟨rfl,h0⟩|⟨g,cap,cur,rfl,_,hh,_⟩
 · exact⟨none,0,by rw[h0],rfl,hm,hok,.inl h0⟩
 · refine⟨_,cap,rfl,rfl,hm,hok,.inr ⟨g,0,rfl,(Array.getElem?_eq_some_iff.1 hh).1,fun i t ht=> ?_⟩⟩
   obtain⟨h1,h2⟩:=clr_at L i t ht;have k:=fun j u hu=>h.cells (g:=g) rfl j u hu
   simp only[nadd_at] at k;exact⟨k _ _ h1,k _ _ h2⟩
theorem Owr.ty(h:Owr B w v L):∀g,v.ownBlock=some g→∃cs,w.heap[g]? =some (.cells cs 134 (0,0)):=by
 intro g hg;rcases h.2 with⟨rfl,_⟩|⟨g',cap,cur,rfl,_,hh,_⟩
 · simp[Value.ownBlock] at hg
 · simp[Value.ownBlock] at hg;subst hg;exact⟨cur,hh⟩
end
theorem wpList_ar{ops:Array Oper}{rest:List Oper}{o:Oper}{a:Act}{w:World}{Q:Exit→Act→World→Prop}(hgd:o.guard=none)(s x:Operand)
 (ho:o.op=.call {callee:=.builtin .append,args:= #[s,x],argTypes:= #[130,130]}) (B:Nat) (v:Value) (L:List Rn) (hs:a.eval s=v) (h:Owr B w v L) (b c:Nat) (y e:Nat)
 (hx:a.eval x=.slice (some ⟨b,0,none⟩) 1 c) (hc:w.cell? ⟨b,0,none⟩=some (.int .u8 (y:Int))∧w.cell? ⟨b,1,none⟩=some (.int .u8 (e:Int))) (hL:L.length≤3000000) (hB:B≤w.heap.size)
 (hK:∀v' w',Owr B w' v' (L++[⟨y,e⟩])→w.grownBy w' v.ownBlock→Below B w w'→wpList Tryz.prog ops Q rest (a.put o.dst v') w'):wpList Tryz.prog ops Q (o::rest) a w:=
 wpList_plain hgd fun K hK'=>by
  obtain⟨i,h1,h2,h3,h4⟩:=info_of runInfo
  obtain⟨v',w',r1,r2,r3,_⟩:=run_append_own (P:= Tryz.prog) w B 130 o.type 134 i _ 2 2 Tryz.underlying130 h1 h2 h3 h4 rfl (by decide) v L.length (clr L) h ⟨b,0,none⟩ 1 c (clr [⟨y,e⟩]) rfl
   (fun j u hu=>by
    rw[nadd_at,Nat.zero_add]
    match j,hu with
    |0,hu=>simp[clr] at hu;subst hu;exact hc.1
    |1,hu=>simp[clr] at hu;subst hu;exact hc.2
    |j+2,hu=>simp[clr] at hu) (clr_one _) (by unfold maxLen;omega) (by omega) hB
  unfold Oper.wp execOp;simp only[ho,resolve,invoke,builtin,Sem.run_bind,Sem.run_pure,Result.andThen_ok,List.map_toArray,List.map_cons,List.map_nil,hs,hx,r1];refine hK' _ _ (hK v' w' ?_ r3 ((Below.refl _ w).grown r3 hB (fun k hk=>(World.ownsRow.lt h k hk).1)));unfold Owr;rw[List.length_append,clr_append];exact r2
end Go.Proofs.YtdpabanajgegjaaGreatDoor.U
namespace Go.Proofs.YtdpabanajgegjaaGreatDoor.U
open Go Go.RowKit M
theorem rbits_any(s:Nat)(w:World)(hs:s≤255):Calls Tryz.prog 69 #[.int .u8 s] w fun x w'=>x=.returned (.int .i64 (rbs s))∧w=w':=by
 have hc:s<16∨s=16∨s=17∨s=18∨18<s:=by omega
 rcases hc with h|h|h|h|h
 · have ht:rbs s=0:=by unfold rbs;split<;>first|omega|(split<;>first|omega|(split<;>first|omega|(split<;>omega)))
   rw[ht];have d_s16:decide ((s:Int)<16)=true:=decide_eq_true (by omega);have d_s16':decide (s<16)=true:=decide_eq_true (by omega);clear h ht;go_enter Tryz.func69,Tryz.ntmps69;go_wp2;go_ret;exact⟨rfl,rfl⟩
 · have ht:rbs s=2:=by unfold rbs;split<;>first|omega|(split<;>first|omega|(split<;>first|omega|(split<;>omega)))
   rw[ht];have d_s16:decide ((s:Int)<16)=false:=decide_eq_false (by omega);have d_s16':decide (s<16)=false:=decide_eq_false (by omega);have e_s16:((s:Int)==16)=true:=by rw[beq_iff_eq];omega
   have e_s16':(s==16)=true:=by rw[beq_iff_eq];omega
   clear h ht;go_enter Tryz.func69,Tryz.ntmps69;go_wp2;go_ret;exact⟨rfl,rfl⟩
 · have ht:rbs s=3:=by unfold rbs;split<;>first|omega|(split<;>first|omega|(split<;>first|omega|(split<;>omega)))
   rw[ht];have d_s16:decide ((s:Int)<16)=false:=decide_eq_false (by omega);have d_s16':decide (s<16)=false:=decide_eq_false (by omega);have e_s16:((s:Int)==16)=false:=by rw[beq_eq_false_iff_ne];omega
   have e_s16':(s==16)=false:=by rw[beq_eq_false_iff_ne];omega
   have e_s17:((s:Int)==17)=true:=by rw[beq_iff_eq];omega
   have e_s17':(s==17)=true:=by rw[beq_iff_eq];omega
   clear h ht;go_enter Tryz.func69,Tryz.ntmps69;go_wp2;go_ret;exact⟨rfl,rfl⟩
 · have ht:rbs s=7:=by unfold rbs;split<;>first|omega|(split<;>first|omega|(split<;>first|omega|(split<;>omega)))
   rw[ht];have d_s16:decide ((s:Int)<16)=false:=decide_eq_false (by omega);have d_s16':decide (s<16)=false:=decide_eq_false (by omega);have e_s16:((s:Int)==16)=false:=by rw[beq_eq_false_iff_ne];omega
   have e_s16':(s==16)=false:=by rw[beq_eq_false_iff_ne];omega
   have e_s17:((s:Int)==17)=false:=by rw[beq_eq_false_iff_ne];omega
   have e_s17':(s==17)=false:=by rw[beq_eq_false_iff_ne];omega
   have e_s18:((s:Int)==18)=true:=by rw[beq_iff_eq];omega
   have e_s18':(s==18)=true:=by rw[beq_iff_eq];omega
   clear h ht;go_enter Tryz.func69,Tryz.ntmps69;go_wp2;go_ret;exact⟨rfl,rfl⟩
 · have ht:rbs s= -1:=by unfold rbs;split<;>first|omega|(split<;>first|omega|(split<;>first|omega|(split<;>omega)))
   rw[ht];have d_s16:decide ((s:Int)<16)=false:=decide_eq_false (by omega);have d_s16':decide (s<16)=false:=decide_eq_false (by omega);have e_s16:((s:Int)==16)=false:=by rw[beq_eq_false_iff_ne];omega
   have e_s16':(s==16)=false:=by rw[beq_eq_false_iff_ne];omega
   have e_s17:((s:Int)==17)=false:=by rw[beq_eq_false_iff_ne];omega
   have e_s17':(s==17)=false:=by rw[beq_eq_false_iff_ne];omega
   have e_s18:((s:Int)==18)=false:=by rw[beq_eq_false_iff_ne];omega
   have e_s18':(s==18)=false:=by rw[beq_eq_false_iff_ne];omega
   clear h ht;go_enter Tryz.func69,Tryz.ntmps69;go_wp2;go_ret;exact⟨rfl,rfl⟩
end Go.Proofs.YtdpabanajgegjaaGreatDoor.U
namespace Go.Proofs.YtdpabanajgegjaaGreatDoor.U
open Go.Lib (hid)
open Go Go.RowKit M
def MoreR(B:Nat)(w:World)(T:List Rn)(e:Ending)(w':World):Prop:=∃v',e=.returned v'∧Owr B w' v' T∧Below B w w'
set_option maxRecDepth 1000000 in
set_option maxHeartbeats 1000000 in
theorem rzeros_any(B:Nat)(v:Value)(L:List Rn)(n:Nat)(w:World)(h:Owr B w v L)(hB:B≤w.heap.size)(hn:L.length+n≤1000000):Calls Tryz.prog 106 #[v,.int .i64 n] w (MoreR B w (L++zrs n)):=by
 obtain⟨T,hT⟩:∃T,L++zrs n=T:=⟨_,rfl⟩
 have hTl:T.length≤1000000:=by rw[←hT,List.length_append];have:=zrs_len n;omega
 rw[hT];have HO:=hid h;have HT:=hid hT;have HTL:=hid hTl;have HBw:=hid hB;have hn2:n≤1000000:=by omega
 clear h hT hTl hB hn;go_enter Tryz.func106,Tryz.ntmps106;go_wp2_with fail
 go_loopw [0,1] (fun v x wr=> ∃ (L1:List Rn) (m:Nat),x=.int .i64 m∧Owr B wr v L1∧L1++zrs m=T∧m≤n∧Below B w wr) (fun _ x _=>(intOf x).toNat)
 case atStart=>exact⟨L,n,rfl,HO.out,HT.out,Nat.le_refl _,Below.refl _ _⟩
 case round=>
  obtain⟨L1,m,rfl,hO1,hT1,hm,hb1⟩:=hrel;have hLb:L1.length≤2000000:=by have:=congrArg List.length hT1;rw[List.length_append] at this;have:=HTL.out;omega
  have HO1:=hid hO1;have HB1:=hid hb1;by_cases h11:11≤m
  · have d1:decide (11≤(m:Int))=true:=decide_eq_true (by omega)
    have d1':decide (11≤m)=true:=decide_eq_true h11;obtain⟨k,hk⟩:∃k,min m 138=k:=⟨_,rfl⟩
    have k1:(if(m:Int)<138 then(m:Int) else 138)=(k:Int):=by split<;>omega
    have k2:(if(138:Int)<(m:Int) then(138:Int) else(m:Int))=(k:Int):=by split<;>omega
    have k3:(if m<138 then(m:Int) else 138)=(k:Int):=by split<;>omega
    have k4:(if 138<m then(138:Int) else(m:Int))=(k:Int):=by split<;>omega
    obtain⟨x,hx⟩:∃x,k - 11=x:=⟨_,rfl⟩
    have ex:(k:Int) - 11=(x:Int):=by omega
    have hx1:x≤127:=by omega
    have hkb:k≤138:=by omega
    obtain⟨m',hm'⟩:∃m',m - k=m':=⟨_,rfl⟩
    have em:(m:Int) - (k:Int)=(m':Int):=by omega
    have HT2:=hid (show(L1++[⟨18,x⟩])++zrs m'=T from by
     rw[List.append_assoc];rw[zrs_many h11,hk,hx,hm'] at hT1;exact hT1)
    have HM:=hid (show m'<m∧m'≤n from by omega);clear hO1 hb1 hT1 h11 hk hx hm';go_wp2_with (at_builtin;refine wpList_ar rfl (.tmp 10) (.tmp 15) rfl B _ L1 rfl (HO1.out.alloc _) wr.heap.size 1 18 x rfl ⟨by simp,by simp⟩ (by omega) (by have:=HB1.out.size;have:=HBw.out;simp;omega) ?_;intro v' w' o' g' b';have HO3:=hid o';have HB3:=hid ((HB1.out.alloc (Nat.le_trans HBw.out HB1.out.size) _).trans b');clear o' g' b');go_roundw
    case rel=>exact⟨_,m',rfl,HO3.out,HT2.out,HM.out.2,HB3.out⟩
    case measure=>(have:=HM.out.1;simp[intOf];try omega)
  · have d1:decide (11≤(m:Int))=false:=decide_eq_false (by omega)
    have d1':decide (11≤m)=false:=decide_eq_false h11;by_cases h3:3≤m
    · have d2:decide (3≤(m:Int))=true:=decide_eq_true (by omega)
      have d2':decide (3≤m)=true:=decide_eq_true h3;obtain⟨x,hx⟩:∃x,m - 3=x:=⟨_,rfl⟩
      have ex:(m:Int) - 3=(x:Int):=by omega
      have hx1:x≤127:=by omega
      have HT2:=hid (show L1++[⟨17,x⟩]=T from by rw[zrs_some h11 h3,hx] at hT1;exact hT1);have hmb:m≤10:=by omega
      clear hO1 hb1 hT1 h11 h3 hx;go_wp2_with (at_builtin;refine wpList_ar rfl (.tmp 22) (.tmp 27) rfl B _ L1 rfl (HO1.out.alloc _) wr.heap.size 1 17 x rfl ⟨by simp,by simp⟩ (by omega) (by have:=HB1.out.size;have:=HBw.out;simp;omega) ?_;intro v' w' o' g' b';have HO3:=hid o';have HB3:=hid ((HB1.out.alloc (Nat.le_trans HBw.out HB1.out.size) _).trans b');clear o' g' b')
      go_loopw [0,1] (fun v x wr2=> ∃ (L2:List Rn) (m2:Nat),x=.int .i64 m2∧Owr B wr2 v L2∧L2++List.replicate m2 ⟨0,0⟩=T∧m2≤10∧Below B w wr2) (fun _ x _=>(intOf x).toNat)
      case atStart=>exact⟨_,0,rfl,HO3.out,by rw[HT2.out];simp,by omega,HB3.out⟩
      case round=>
       obtain⟨L2,m2,rfl,hO2,hT2,hm2,hb2⟩:=hrel;have hLb:L2.length≤2000000:=by have:=congrArg List.length hT2;rw[List.length_append] at this;have:=HTL.out;omega
       have HO2:=hid hO2;have HB2:=hid hb2;by_cases hp:0<m2
       · have p1:decide (0<(m2:Int))=true:=decide_eq_true (by omega)
         have p1':decide (0<m2)=true:=decide_eq_true hp;obtain⟨m3,rfl⟩:∃m3,m2=m3+1:=⟨m2 - 1,by omega⟩
         have HT3:=hid (show(L2++[⟨0,0⟩])++List.replicate m3 ⟨0,0⟩=T from by rw[List.append_assoc];rw[List.replicate_succ] at hT2;exact hT2);clear hO2 hb2 hT2;go_wp2_with (at_builtin;refine wpList_ar rfl (.tmp 31) (.tmp 33) rfl B _ L2 rfl (HO2.out.alloc _) wr.heap.size 1 0 0 rfl ⟨by simp,by simp⟩ (by omega) (by have:=HB2.out.size;have:=HBw.out;simp;omega) ?_;intro v' w' o' g' b';have HO3:=hid o';have HB3:=hid ((HB2.out.alloc (Nat.le_trans HBw.out HB2.out.size) _).trans b');clear o' g' b');go_roundw
         case rel=>exact⟨_,m3,by go_num,HO3.out,HT3.out,by omega,HB3.out⟩
         case measure=>(simp[intOf];try omega)
       · obtain rfl:m2=0:=by omega
         have p1:decide (0<((0:Nat):Int))=false:=by decide
         have HT3:=hid (show L2=T from by rw[←hT2];simp);clear hO2 hb2 hT2;go_wp2_with fail;go_ret;exact⟨_,rfl,by rw[←HT3.out];exact HO2.out,HB2.out⟩
    · have d2:decide (3≤(m:Int))=false:=decide_eq_false (by omega)
      have d2':decide (3≤m)=false:=decide_eq_false h3;have HT2:=hid (show L1++List.replicate m ⟨0,0⟩=T from by rw[zrs_few h3] at hT1;exact hT1);have HM:=hid (show m≤10 by omega);clear hO1 hb1 hT1 h11 h3;go_wp2_with fail
      go_loopw [0,1] (fun v x wr2=> ∃ (L2:List Rn) (m2:Nat),x=.int .i64 m2∧Owr B wr2 v L2∧L2++List.replicate m2 ⟨0,0⟩=T∧m2≤10∧Below B w wr2) (fun _ x _=>(intOf x).toNat)
      case atStart=>exact⟨_,m,rfl,HO1.out,HT2.out,HM.out,HB1.out⟩
      case round=>
       obtain⟨L2,m2,rfl,hO2,hT2,hm2,hb2⟩:=hrel;have hLb:L2.length≤2000000:=by have:=congrArg List.length hT2;rw[List.length_append] at this;have:=HTL.out;omega
       have HO2:=hid hO2;have HB2:=hid hb2;by_cases hp:0<m2
       · have p1:decide (0<(m2:Int))=true:=decide_eq_true (by omega)
         have p1':decide (0<m2)=true:=decide_eq_true hp;obtain⟨m3,rfl⟩:∃m3,m2=m3+1:=⟨m2 - 1,by omega⟩
         have HT3:=hid (show(L2++[⟨0,0⟩])++List.replicate m3 ⟨0,0⟩=T from by rw[List.append_assoc];rw[List.replicate_succ] at hT2;exact hT2);clear hO2 hb2 hT2;go_wp2_with (at_builtin;refine wpList_ar rfl (.tmp 31) (.tmp 33) rfl B _ L2 rfl (HO2.out.alloc _) wr.heap.size 1 0 0 rfl ⟨by simp,by simp⟩ (by omega) (by have:=HB2.out.size;have:=HBw.out;simp;omega) ?_;intro v' w' o' g' b';have HO3:=hid o';have HB3:=hid ((HB2.out.alloc (Nat.le_trans HBw.out HB2.out.size) _).trans b');clear o' g' b');go_roundw
         case rel=>exact⟨_,m3,by go_num,HO3.out,HT3.out,by omega,HB3.out⟩
         case measure=>(simp[intOf];try omega)
       · obtain rfl:m2=0:=by omega
         have p1:decide (0<((0:Nat):Int))=false:=by decide
         have HT3:=hid (show L2=T from by rw[←hT2];simp);clear hO2 hb2 hT2;go_wp2_with fail;go_ret;exact⟨_,rfl,by rw[←HT3.out];exact HO2.out,HB2.out⟩
set_option maxRecDepth 1000000 in
set_option maxHeartbeats 1000000 in
theorem rothers_any(B:Nat)(v:Value)(L:List Rn)(c n:Nat)(w:World)(h:Owr B w v L)(hB:B≤w.heap.size)(hc:c≤255)(hn1:1≤n)(hn:L.length+n≤1000000):Calls Tryz.prog 107 #[v,.int .u8 c,.int .i64 n] w (MoreR B w (L++oth c n)):=by
 obtain⟨T,hT⟩:∃T,L++oth c n=T:=⟨_,rfl⟩
 have hTl:T.length≤1000000:=by rw[←hT,List.length_append];unfold oth;rw[List.length_cons];have:=oths_len c (n - 1);omega
 rw[hT];have HO:=hid h;have HT:=hid (show(L++[⟨c,0⟩])++oths c (n - 1)=T from by rw[List.append_assoc];unfold oth at hT;exact hT);have HTL:=hid hTl;have HBw:=hid hB;have hLb0:L.length≤2000000:=by omega
 obtain⟨n0,hn0⟩:∃n0,n - 1=n0:=⟨_,rfl⟩
 have en:(n:Int) - 1=(n0:Int):=by omega
 have hn2:n0≤1000000:=by omega
 rw[hn0] at HT;clear h hT hTl hB hn hn1 hn0;go_enter Tryz.func107,Tryz.ntmps107;go_wp2_with (at_builtin;refine wpList_ar rfl (.tmp 8) (.tmp 11) rfl B _ L rfl (HO.out.alloc _) w.heap.size 1 c 0 rfl ⟨by simp,by simp⟩ (by omega) (by have:=HBw.out;simp;omega) ?_;intro v' w' o' g' b';have HO0:=hid o';have HB0:=hid (((Below.refl B w).alloc HBw.out _).trans b');clear o' g' b')
 go_loopw [0,2] (fun v x wr=> ∃ (L1:List Rn) (m:Nat),x=.int .i64 m∧Owr B wr v L1∧L1++oths c m=T∧m≤n0∧Below B w wr) (fun _ x _=>(intOf x).toNat)
 case atStart=>exact⟨_,n0,rfl,HO0.out,HT.out,Nat.le_refl _,HB0.out⟩
 case round=>
  obtain⟨L1,m,rfl,hO1,hT1,hm,hb1⟩:=hrel;have hLb:L1.length≤2000000:=by have:=congrArg List.length hT1;rw[List.length_append] at this;have:=HTL.out;omega
  have HO1:=hid hO1;have HB1:=hid hb1;by_cases h3:3≤m
  · have d1:decide (3≤(m:Int))=true:=decide_eq_true (by omega)
    have d1':decide (3≤m)=true:=decide_eq_true h3;obtain⟨k,hk⟩:∃k,min m 6=k:=⟨_,rfl⟩
    have k1:(if(m:Int)<6 then(m:Int) else 6)=(k:Int):=by split<;>omega
    have k2:(if(6:Int)<(m:Int) then(6:Int) else(m:Int))=(k:Int):=by split<;>omega
    have k3:(if m<6 then(m:Int) else 6)=(k:Int):=by split<;>omega
    have k4:(if 6<m then(6:Int) else(m:Int))=(k:Int):=by split<;>omega
    obtain⟨x,hx⟩:∃x,k - 3=x:=⟨_,rfl⟩
    have ex:(k:Int) - 3=(x:Int):=by omega
    have hx1:x≤127:=by omega
    have hkb:k≤6:=by omega
    obtain⟨m',hm'⟩:∃m',m - k=m':=⟨_,rfl⟩
    have em:(m:Int) - (k:Int)=(m':Int):=by omega
    have HT2:=hid (show(L1++[⟨16,x⟩])++oths c m'=T from by
     rw[List.append_assoc];rw[oths_many h3,hk,hx,hm'] at hT1;exact hT1)
    have HM:=hid (show m'<m∧m'≤n0 from by omega);clear hO1 hb1 hT1 h3 hk hx hm';go_wp2_with (at_builtin;refine wpList_ar rfl (.tmp 19) (.tmp 24) rfl B _ L1 rfl (HO1.out.alloc _) wr.heap.size 1 16 x rfl ⟨by simp,by simp⟩ (by omega) (by have:=HB1.out.size;have:=HBw.out;simp;omega) ?_;intro v' w' o' g' b';have HO3:=hid o';have HB3:=hid ((HB1.out.alloc (Nat.le_trans HBw.out HB1.out.size) _).trans b');clear o' g' b');go_roundw
    case rel=>exact⟨_,m',rfl,HO3.out,HT2.out,HM.out.2,HB3.out⟩
    case measure=>(have:=HM.out.1;simp[intOf];try omega)
  · have d1:decide (3≤(m:Int))=false:=decide_eq_false (by omega)
    have d1':decide (3≤m)=false:=decide_eq_false h3;have HT2:=hid (show L1++List.replicate m ⟨c,0⟩=T from by rw[oths_few h3] at hT1;exact hT1);have HM:=hid (show m≤10 by omega);clear hO1 hb1 hT1 h3;go_wp2_with fail
    go_loopw [0,2] (fun v x wr2=> ∃ (L2:List Rn) (m2:Nat),x=.int .i64 m2∧Owr B wr2 v L2∧L2++List.replicate m2 ⟨c,0⟩=T∧m2≤10∧Below B w wr2) (fun _ x _=>(intOf x).toNat)
    case atStart=>exact⟨_,m,rfl,HO1.out,HT2.out,HM.out,HB1.out⟩
    case round=>
     obtain⟨L2,m2,rfl,hO2,hT2,hm2,hb2⟩:=hrel;have hLb:L2.length≤2000000:=by have:=congrArg List.length hT2;rw[List.length_append] at this;have:=HTL.out;omega
     have HO2:=hid hO2;have HB2:=hid hb2;by_cases hp:0<m2
     · have p1:decide (0<(m2:Int))=true:=decide_eq_true (by omega)
       have p1':decide (0<m2)=true:=decide_eq_true hp;obtain⟨m3,rfl⟩:∃m3,m2=m3+1:=⟨m2 - 1,by omega⟩
       have HT3:=hid (show(L2++[⟨c,0⟩])++List.replicate m3 ⟨c,0⟩=T from by rw[List.append_assoc];rw[List.replicate_succ] at hT2;exact hT2);clear hO2 hb2 hT2;go_wp2_with (at_builtin;refine wpList_ar rfl (.tmp 31) (.tmp 34) rfl B _ L2 rfl (HO2.out.alloc _) wr.heap.size 1 c 0 rfl ⟨by simp,by simp⟩ (by omega) (by have:=HB2.out.size;have:=HBw.out;simp;omega) ?_;intro v' w' o' g' b';have HO3:=hid o';have HB3:=hid ((HB2.out.alloc (Nat.le_trans HBw.out HB2.out.size) _).trans b');clear o' g' b');go_roundw
       case rel=>exact⟨_,m3,by go_num,HO3.out,HT3.out,by omega,HB3.out⟩
       case measure=>(simp[intOf];try omega)
     · obtain rfl:m2=0:=by omega
       have p1:decide (0<((0:Nat):Int))=false:=by decide
       have HT3:=hid (show L2=T from by rw[←hT2];simp);clear hO2 hb2 hT2;go_wp2_with fail;go_ret;exact⟨_,rfl,by rw[←HT3.out];exact HO2.out,HB2.out⟩
theorem ru_at(v:Nat):∀ (m:List Nat) (j:Nat),j<ru v m→m[j]? =some v
 |[],j,h=>absurd h (Nat.not_lt_zero j)
 |x::m,j,h=>by
  unfold ru at h
  split at h
  · rename_i e
    cases j with
    |zero=>rw[e];rfl
    |succ j=>rw[List.getElem?_cons_succ];exact ru_at v m j (by omega)
  · omega
theorem ru_end(v:Nat):∀ (m:List Nat),m[ru v m]? ≠some v
 |[]=>by simp
 |x::m=>by
  unfold ru
  split
  · rw[List.getElem?_cons_succ];exact ru_end v m
  · rename_i e;intro h;simp at h;exact e h
def rn(l:List Nat)(k:Nat):Nat:=ru (l.getD k 0) (l.drop k)
theorem rn_at{l:List Nat}{k j:Nat}(h:j<rn l k):k+j<l.length∧l.getD (k+j) 0=l.getD k 0:=by
 have h1:=ru_at _ _ _ h;rw[List.getElem?_drop] at h1;exact⟨(List.getElem?_eq_some_iff.1 h1).1,by rw[List.getD,h1];rfl⟩
theorem rn_end{l:List Nat}{k:Nat}(h:k+rn l k<l.length):l.getD (k+rn l k) 0≠l.getD k 0:=by
 have h1:=ru_end (l.getD k 0) (l.drop k);rw[List.getElem?_drop] at h1;intro e;apply h1
 show l[k+rn l k]? =_
 rw[←e,List.getD,List.getElem?_eq_getElem h];rfl
theorem pk_at{l:List Nat}{k:Nat}(hk:k<l.length):pk (l.drop k)=one (l.getD k 0) (rn l k)++pk (l.drop (k+rn l k))∧1≤rn l k∧k+rn l k≤l.length:=by
 have hd:l.drop k=l.getD k 0::l.drop (k+1):=by
  rw[List.drop_eq_getElem_cons hk,List.getD,List.getElem?_eq_getElem hk];rfl
 have hr:rn l k=ru (l.getD k 0) (l.drop (k+1))+1:=by
  unfold rn;rw[hd];show(if _ then _ else _)=_
  rw[if_pos rfl]
 have h1:=ru_le (l.getD k 0) (l.drop (k+1));rw[List.length_drop] at h1;refine⟨?_,by omega,by omega⟩
 have e:pk (l.drop k)=one (l.getD k 0) (ru (l.getD k 0) (l.drop (k+1))+1)++pk ((l.drop (k+1)).drop (ru (l.getD k 0) (l.drop (k+1)))):=by
  rw[←pk_cons,←hd]
 rw[e,List.drop_drop,hr,show k+1+ru (l.getD k 0) (l.drop (k+1))=k+(ru (l.getD k 0) (l.drop (k+1))+1) by omega]
def RnP(W:World)(L:List Rn)(e:Ending)(w':World):Prop:=∃v,e=.returned (.tuple #[v,.int .i64 0])∧Owr W.heap.size w' v L∧Below W.heap.size W w'
set_option maxRecDepth 1000000 in
set_option maxHeartbeats 2000000 in
theorem rpack_any(A:Option Addr)(n c:Nat)(l:List Nat)(w:World)(H:IsBys w A n l)(hn:n≤100000)(hb:∀i,i<n→l.getD i 0≤15):Calls Tryz.prog 67 #[.slice A n c] w (RnP w (pk l)):=by
 have HH:=hid H;have HB:=hid hb;have hl:=H.leng;have HL:=hid hl;obtain⟨T,hT⟩:∃T,pk l=T:=⟨_,rfl⟩
 have hTl:T.length≤n:=by rw[←hT,←hl];exact pk_len l
 rw[hT];have HT:=hid hT;have HTL:=hid hTl;clear H hb hl hT hTl;go_enter Tryz.func67,Tryz.ntmps67;go_wp2_with fail
 go_loopw [4] (fun x wr=> ∃k:Nat,k≤n∧x=.int .i64 k∧w=wr) (fun x _=>n - (intOf x).toNat)
 case atStart=>exact⟨0,Nat.zero_le _,rfl,rfl⟩
 case round=>
  obtain⟨k,hk,rfl,rfl⟩:=hrel;by_cases hlt:k<n
  · have d1:decide ((k:Int)<(n:Int))=true:=decide_eq_true (by omega)
    have d1':decide (k<n)=true:=decide_eq_true hlt;obtain⟨b,o,rfl,hbl,hc⟩:=HH.out.at (by omega);have c0:=hc k hlt;have hle:=HB.out k hlt;obtain⟨x,hx0⟩:∃x,l.getD k 0=x:=⟨_,rfl⟩
    rw[hx0] at c0 hle;have d2:decide (15<(x:Int))=false:=decide_eq_false (by omega);have d2':decide (15<x)=false:=decide_eq_false (by omega);clear hx0 hc hle;go_wp2_with fail;go_roundw
    case rel=>exact⟨k+1,by omega,by go_num,trivial⟩
    case measure=>(simp[intOf];try omega)
  · obtain rfl:k=n:=by omega
    have d1:decide ((k:Int)<(k:Int))=false:=decide_eq_false (by omega);have d1':decide (k<k)=false:=decide_eq_false (by omega);go_wp2_with fail
    go_loopw [5,6] (fun v x wr2=> ∃ (p:Nat) (L:List Rn),p≤k∧x=.int .i64 p∧Owr w.heap.size wr2 v L∧L++pk (l.drop p)=T∧Below w.heap.size w wr2) (fun _ x _=>k - (intOf x).toNat)
    case atStart=>exact⟨0,[],Nat.zero_le _,rfl,Owr.nil _ _,by rw[List.drop_zero];exact HT.out,Below.refl _ _⟩
    case round=>
     obtain⟨p,L,hp,rfl,hO,hTt,hbl2⟩:=hrel;have hLb:L.length≤200000:=by have:=congrArg List.length hTt;rw[List.length_append] at this;have:=HTL.out;omega
     have HO:=hid hO;have HB2:=hid hbl2;by_cases hlt2:p<k
     · have d2:decide ((p:Int)<(k:Int))=true:=decide_eq_true (by omega)
       have d2':decide (p<k)=true:=decide_eq_true hlt2;obtain⟨b,o,rfl,hbb,hc⟩:=(HH.out.below hbl2).at (by omega);have c0:=hc p hlt2;have HC:=hid hc;obtain⟨e1,e2,e3⟩:=pk_at (l:=l) (k:=p) (by rw[HL.out];exact hlt2);rw[HL.out] at e3;have ra:=fun j=>rn_at (l:=l) (k:=p) (j:=j)
       have re:=rn_end (l:=l) (k:=p);have hle:=HB.out p hlt2;obtain⟨x,hx⟩:∃x,l.getD p 0=x:=⟨_,rfl⟩
       obtain⟨R,hR⟩:∃R,rn l p=R:=⟨_,rfl⟩
       rw[hx,hR] at e1 ra;rw[hx,hR] at re;rw[hR] at e2 e3;rw[hx] at c0 hle;have HRa:=hid ra;have HRe:=hid re;have HE:=hid (show(L++one x R)++pk (l.drop (p+R))=T from by rw[List.append_assoc,←e1];exact hTt);have HBd:=hid (show 1≤R∧p+R≤k∧p<k∧L.length+R≤1000000 from by omega);have hn9:=hn;clear hO hbl2 hTt hc e1 ra re hx hR e2 e3;go_wp2_with fail
       go_loopw [6,8] (fun y z wr3=> ∃j:Nat,j≤R∧y=.int .i64 ((p+j:Nat):Int)∧z=.int .i64 j∧wr=wr3) (fun _ z _=>R - (intOf z).toNat)
       case atStart=>exact⟨0,Nat.zero_le _,rfl,rfl,rfl⟩
       case round=>
        obtain⟨j,hj,rfl,rfl,rfl⟩:=hrel;by_cases hjR:j<R
        · obtain⟨g1,g2⟩:=HRa.out j hjR
          rw[HL.out] at g1;obtain⟨t,ht⟩:∃t,p+j=t:=⟨_,rfl⟩
          rw[ht] at g1 g2 ⊢;have c1:=HC.out t g1;rw[g2] at c1;have d3:decide ((t:Int)<(k:Int))=true:=decide_eq_true (by omega);have d3':decide (t<k)=true:=decide_eq_true g1;have HJ:=hid (show j+1≤R∧((p+(j+1):Nat):Int)=(t:Int)+1 from by omega);have htb:t≤100000:=by omega
          have hjb:j≤200000:=by have:=HBd.out;omega
          clear g2 ht hjR;go_wp2_with fail;go_roundw
          case rel=>exact⟨j+1,HJ.out.1,by rw[HJ.out.2],by go_num,trivial⟩
          case measure=>(have:=HJ.out.1;simp[intOf];try omega)
        · obtain rfl:j=R:=by omega
          obtain⟨t,ht⟩:∃t,p+j=t:=⟨_,rfl⟩
          have HTt:=hid ht;rw[ht] at HBd HE HRe;rw[ht];rw[HL.out] at HRe;by_cases htk:t<k
          · have d3:decide ((t:Int)<(k:Int))=true:=decide_eq_true (by omega)
            have d3':decide (t<k)=true:=decide_eq_true htk;have c1:=HC.out t htk;have hne:=HRe.out htk;obtain⟨y,hy⟩:∃y,l.getD t 0=y:=⟨_,rfl⟩
            rw[hy] at c1 hne;have q1:((y:Int)==(x:Int))=false:=by rw[beq_eq_false_iff_ne];omega
            have q1':(y==x)=false:=by rw[beq_eq_false_iff_ne];exact hne
            clear ht hjR hy hne;by_cases hx0:x=0
            · have q0:((x:Int)==0)=true:=by rw[beq_iff_eq];omega
              have q0':(x==0)=true:=by rw[beq_iff_eq];exact hx0
              have HZ:=hid (rzeros_any w.heap.size _ L j _ HO.out HB2.out.size (by have:=HBd.out;omega));have HOne:=hid (show one x j=zrs j by unfold one;rw[if_pos hx0]);unfold MoreR at HZ;clear hx0;go_wp2_with (go_at_call 106;(with_reducible refine HZ.out.mono ?_);rintro e w5 ⟨v',rfl,o5,b5⟩;have HO5:=hid o5;have HB5:=hid (HB2.out.trans b5);clear o5 b5);go_roundw
              case rel=>exact⟨_,L++one x j,HBd.out.2.1,rfl,by rw[HOne.out];exact HO5.out,HE.out,HB5.out⟩
              case measure=>(have:=HBd.out;have:=HTt.out;simp[intOf];try omega)
            · have q0:((x:Int)==0)=false:=by rw[beq_eq_false_iff_ne];omega
              have q0':(x==0)=false:=by rw[beq_eq_false_iff_ne];exact hx0
              have HZ:=hid (rothers_any w.heap.size _ L x j _ HO.out HB2.out.size (by omega) HBd.out.1 (by have:=HBd.out;omega));have HOne:=hid (show one x j=oth x j by unfold one;rw[if_neg hx0]);unfold MoreR at HZ;clear hx0;go_wp2_with (go_at_call 107;(with_reducible refine HZ.out.mono ?_);rintro e w5 ⟨v',rfl,o5,b5⟩;have HO5:=hid o5;have HB5:=hid (HB2.out.trans b5);clear o5 b5);go_roundw
              case rel=>exact⟨_,L++one x j,HBd.out.2.1,rfl,by rw[HOne.out];exact HO5.out,HE.out,HB5.out⟩
              case measure=>(have:=HBd.out;have:=HTt.out;simp[intOf];try omega)
          · have d3:decide ((t:Int)<(k:Int))=false:=decide_eq_false (by omega)
            have d3':decide (t<k)=false:=decide_eq_false htk;clear ht hjR;by_cases hx0:x=0
            · have q0:((x:Int)==0)=true:=by rw[beq_iff_eq];omega
              have q0':(x==0)=true:=by rw[beq_iff_eq];exact hx0
              have HZ:=hid (rzeros_any w.heap.size _ L j _ HO.out HB2.out.size (by have:=HBd.out;omega));have HOne:=hid (show one x j=zrs j by unfold one;rw[if_pos hx0]);unfold MoreR at HZ;clear hx0;go_wp2_with (go_at_call 106;(with_reducible refine HZ.out.mono ?_);rintro e w5 ⟨v',rfl,o5,b5⟩;have HO5:=hid o5;have HB5:=hid (HB2.out.trans b5);clear o5 b5);go_roundw
              case rel=>exact⟨_,L++one x j,HBd.out.2.1,rfl,by rw[HOne.out];exact HO5.out,HE.out,HB5.out⟩
              case measure=>(have:=HBd.out;have:=HTt.out;simp[intOf];try omega)
            · have q0:((x:Int)==0)=false:=by rw[beq_eq_false_iff_ne];omega
              have q0':(x==0)=false:=by rw[beq_eq_false_iff_ne];exact hx0
              have HZ:=hid (rothers_any w.heap.size _ L x j _ HO.out HB2.out.size (by omega) HBd.out.1 (by have:=HBd.out;omega));have HOne:=hid (show one x j=oth x j by unfold one;rw[if_neg hx0]);unfold MoreR at HZ;clear hx0;go_wp2_with (go_at_call 107;(with_reducible refine HZ.out.mono ?_);rintro e w5 ⟨v',rfl,o5,b5⟩;have HO5:=hid o5;have HB5:=hid (HB2.out.trans b5);clear o5 b5);go_roundw
              case rel=>exact⟨_,L++one x j,HBd.out.2.1,rfl,by rw[HOne.out];exact HO5.out,HE.out,HB5.out⟩
              case measure=>(have:=HBd.out;have:=HTt.out;simp[intOf];try omega)
     · obtain rfl:p=k:=by omega
       have d2:decide ((p:Int)<(p:Int))=false:=decide_eq_false (by omega);have d2':decide (p<p)=false:=decide_eq_false (by omega)
       have HE:=hid (show L=T from by
        rw[List.drop_of_length_le (by rw[HL.out];exact Nat.le_refl _),pk_nil,List.append_nil] at hTt;exact hTt)
       clear hO hbl2 hTt;go_wp2_with fail;go_ret2;exact⟨_,rfl,by rw[←HE.out];exact HO.out,HB2.out⟩
end Go.Proofs.YtdpabanajgegjaaGreatDoor.U
namespace Go.Proofs.YtdpabanajgegjaaGreatDoor.U
open Go Go.RowKit M
set_option maxRecDepth 1000000 in
theorem rtimes_any(s e:Nat)(w:World)(hs:s≤255)(he:e≤255):Calls Tryz.prog 112 #[.agg #[.int .u8 s,.int .u8 e]] w fun x w'=>x=.returned (.int .i64 (tms ⟨s,e⟩:Nat))∧Below w.heap.size w w':=by
 have hc:(s<16∧e=0)∨(s<16∧e≠0)∨(s=16∧e<4)∨(s=16∧4≤e)∨(s=17∧e<8)∨(s=17∧8≤e)∨(s=18∧e<128)∨(s=18∧128≤e)∨(18<s):=by omega
 rcases hc with h|h|h|h|h|h|h|h|h
 · have ht:tms ⟨s,e⟩=1:=by unfold tms;simp only;split<;>first|omega|(split<;>first|omega|(split<;>first|omega|(split<;>omega)))
   rw[ht];have d_s16:decide ((s:Int)<16)=true:=decide_eq_true (by omega);have d_s16':decide (s<16)=true:=decide_eq_true (by omega);have e_e0:((e:Int)==0)=true:=by rw[beq_iff_eq];omega
   have e_e0':(e==0)=true:=by rw[beq_iff_eq];omega
   clear h ht;go_enter Tryz.func112,Tryz.ntmps112;go_wp2;go_ret;exact⟨by simp,(Below.refl _ _).alloc (Nat.le_refl _) _⟩
 · have ht:tms ⟨s,e⟩=0:=by unfold tms;simp only;split<;>first|omega|(split<;>first|omega|(split<;>first|omega|(split<;>omega)))
   rw[ht];have d_s16:decide ((s:Int)<16)=true:=decide_eq_true (by omega);have d_s16':decide (s<16)=true:=decide_eq_true (by omega);have e_e0:((e:Int)==0)=false:=by rw[beq_eq_false_iff_ne];omega
   have e_e0':(e==0)=false:=by rw[beq_eq_false_iff_ne];omega
   have e_s16:((s:Int)==16)=false:=by rw[beq_eq_false_iff_ne];omega
   have e_s16':(s==16)=false:=by rw[beq_eq_false_iff_ne];omega
   have e_s17:((s:Int)==17)=false:=by rw[beq_eq_false_iff_ne];omega
   have e_s17':(s==17)=false:=by rw[beq_eq_false_iff_ne];omega
   have e_s18:((s:Int)==18)=false:=by rw[beq_eq_false_iff_ne];omega
   have e_s18':(s==18)=false:=by rw[beq_eq_false_iff_ne];omega
   clear h ht;go_enter Tryz.func112,Tryz.ntmps112;go_wp2;go_ret;exact⟨by simp,(Below.refl _ _).alloc (Nat.le_refl _) _⟩
 · have ht:tms ⟨s,e⟩=3+e:=by unfold tms;simp only;split<;>first|omega|(split<;>first|omega|(split<;>first|omega|(split<;>omega)))
   rw[ht];have d_s16:decide ((s:Int)<16)=false:=decide_eq_false (by omega);have d_s16':decide (s<16)=false:=decide_eq_false (by omega);have e_s16:((s:Int)==16)=true:=by rw[beq_iff_eq];omega
   have e_s16':(s==16)=true:=by rw[beq_iff_eq];omega
   have d_e4:decide ((e:Int)<4)=true:=decide_eq_true (by omega);have d_e4':decide (e<4)=true:=decide_eq_true (by omega);clear h ht;go_enter Tryz.func112,Tryz.ntmps112;go_wp2;go_ret;exact⟨by simp,(Below.refl _ _).alloc (Nat.le_refl _) _⟩
 · have ht:tms ⟨s,e⟩=0:=by unfold tms;simp only;split<;>first|omega|(split<;>first|omega|(split<;>first|omega|(split<;>omega)))
   rw[ht];have d_s16:decide ((s:Int)<16)=false:=decide_eq_false (by omega);have d_s16':decide (s<16)=false:=decide_eq_false (by omega);have e_s16:((s:Int)==16)=true:=by rw[beq_iff_eq];omega
   have e_s16':(s==16)=true:=by rw[beq_iff_eq];omega
   have d_e4:decide ((e:Int)<4)=false:=decide_eq_false (by omega);have d_e4':decide (e<4)=false:=decide_eq_false (by omega);have e_s17:((s:Int)==17)=false:=by rw[beq_eq_false_iff_ne];omega
   have e_s17':(s==17)=false:=by rw[beq_eq_false_iff_ne];omega
   have e_s18:((s:Int)==18)=false:=by rw[beq_eq_false_iff_ne];omega
   have e_s18':(s==18)=false:=by rw[beq_eq_false_iff_ne];omega
   clear h ht;go_enter Tryz.func112,Tryz.ntmps112;go_wp2;go_ret;exact⟨by simp,(Below.refl _ _).alloc (Nat.le_refl _) _⟩
 · have ht:tms ⟨s,e⟩=3+e:=by unfold tms;simp only;split<;>first|omega|(split<;>first|omega|(split<;>first|omega|(split<;>omega)))
   rw[ht];have d_s16:decide ((s:Int)<16)=false:=decide_eq_false (by omega);have d_s16':decide (s<16)=false:=decide_eq_false (by omega);have e_s16:((s:Int)==16)=false:=by rw[beq_eq_false_iff_ne];omega
   have e_s16':(s==16)=false:=by rw[beq_eq_false_iff_ne];omega
   have e_s17:((s:Int)==17)=true:=by rw[beq_iff_eq];omega
   have e_s17':(s==17)=true:=by rw[beq_iff_eq];omega
   have d_e8:decide ((e:Int)<8)=true:=decide_eq_true (by omega);have d_e8':decide (e<8)=true:=decide_eq_true (by omega);clear h ht;go_enter Tryz.func112,Tryz.ntmps112;go_wp2;go_ret;exact⟨by simp,(Below.refl _ _).alloc (Nat.le_refl _) _⟩
 · have ht:tms ⟨s,e⟩=0:=by unfold tms;simp only;split<;>first|omega|(split<;>first|omega|(split<;>first|omega|(split<;>omega)))
   rw[ht];have d_s16:decide ((s:Int)<16)=false:=decide_eq_false (by omega);have d_s16':decide (s<16)=false:=decide_eq_false (by omega);have e_s16:((s:Int)==16)=false:=by rw[beq_eq_false_iff_ne];omega
   have e_s16':(s==16)=false:=by rw[beq_eq_false_iff_ne];omega
   have e_s17:((s:Int)==17)=true:=by rw[beq_iff_eq];omega
   have e_s17':(s==17)=true:=by rw[beq_iff_eq];omega
   have d_e8:decide ((e:Int)<8)=false:=decide_eq_false (by omega);have d_e8':decide (e<8)=false:=decide_eq_false (by omega);have e_s18:((s:Int)==18)=false:=by rw[beq_eq_false_iff_ne];omega
   have e_s18':(s==18)=false:=by rw[beq_eq_false_iff_ne];omega
   clear h ht;go_enter Tryz.func112,Tryz.ntmps112;go_wp2;go_ret;exact⟨by simp,(Below.refl _ _).alloc (Nat.le_refl _) _⟩
 · have ht:tms ⟨s,e⟩=11+e:=by unfold tms;simp only;split<;>first|omega|(split<;>first|omega|(split<;>first|omega|(split<;>omega)))
   rw[ht];have d_s16:decide ((s:Int)<16)=false:=decide_eq_false (by omega);have d_s16':decide (s<16)=false:=decide_eq_false (by omega);have e_s16:((s:Int)==16)=false:=by rw[beq_eq_false_iff_ne];omega
   have e_s16':(s==16)=false:=by rw[beq_eq_false_iff_ne];omega
   have e_s17:((s:Int)==17)=false:=by rw[beq_eq_false_iff_ne];omega
   have e_s17':(s==17)=false:=by rw[beq_eq_false_iff_ne];omega
   have e_s18:((s:Int)==18)=true:=by rw[beq_iff_eq];omega
   have e_s18':(s==18)=true:=by rw[beq_iff_eq];omega
   have d_e128:decide ((e:Int)<128)=true:=decide_eq_true (by omega);have d_e128':decide (e<128)=true:=decide_eq_true (by omega);clear h ht;go_enter Tryz.func112,Tryz.ntmps112;go_wp2;go_ret;exact⟨by simp,(Below.refl _ _).alloc (Nat.le_refl _) _⟩
 · have ht:tms ⟨s,e⟩=0:=by unfold tms;simp only;split<;>first|omega|(split<;>first|omega|(split<;>first|omega|(split<;>omega)))
   rw[ht];have d_s16:decide ((s:Int)<16)=false:=decide_eq_false (by omega);have d_s16':decide (s<16)=false:=decide_eq_false (by omega);have e_s16:((s:Int)==16)=false:=by rw[beq_eq_false_iff_ne];omega
   have e_s16':(s==16)=false:=by rw[beq_eq_false_iff_ne];omega
   have e_s17:((s:Int)==17)=false:=by rw[beq_eq_false_iff_ne];omega
   have e_s17':(s==17)=false:=by rw[beq_eq_false_iff_ne];omega
   have e_s18:((s:Int)==18)=true:=by rw[beq_iff_eq];omega
   have e_s18':(s==18)=true:=by rw[beq_iff_eq];omega
   have d_e128:decide ((e:Int)<128)=false:=decide_eq_false (by omega);have d_e128':decide (e<128)=false:=decide_eq_false (by omega);clear h ht;go_enter Tryz.func112,Tryz.ntmps112;go_wp2;go_ret;exact⟨by simp,(Below.refl _ _).alloc (Nat.le_refl _) _⟩
 · have ht:tms ⟨s,e⟩=0:=by unfold tms;simp only;split<;>first|omega|(split<;>first|omega|(split<;>first|omega|(split<;>omega)))
   rw[ht];have d_s16:decide ((s:Int)<16)=false:=decide_eq_false (by omega);have d_s16':decide (s<16)=false:=decide_eq_false (by omega);have e_s16:((s:Int)==16)=false:=by rw[beq_eq_false_iff_ne];omega
   have e_s16':(s==16)=false:=by rw[beq_eq_false_iff_ne];omega
   have e_s17:((s:Int)==17)=false:=by rw[beq_eq_false_iff_ne];omega
   have e_s17':(s==17)=false:=by rw[beq_eq_false_iff_ne];omega
   have e_s18:((s:Int)==18)=false:=by rw[beq_eq_false_iff_ne];omega
   have e_s18':(s==18)=false:=by rw[beq_eq_false_iff_ne];omega
   clear h ht;go_enter Tryz.func112,Tryz.ntmps112;go_wp2;go_ret;exact⟨by simp,(Below.refl _ _).alloc (Nat.le_refl _) _⟩
end Go.Proofs.YtdpabanajgegjaaGreatDoor.U
namespace Go.Proofs.YtdpabanajgegjaaGreatDoor.V
open Go.Lib (hid)
open Go Go.RowKit M U
def put(n k:Nat):List Nat:=(List.range k).map fun i=>n/2^i%2
theorem put_succ(n k:Nat):put n (k+1)=put n k++[n/2^k%2]:=by simp[put,List.range_succ]
theorem put_length(n k:Nat):(put n k).length=k:=by simp[put]
def cdb(c size:Nat):List Nat:=(List.range size).map fun i=>c/2^(size - 1 - i)%2
theorem cdb_length(c size:Nat):(cdb c size).length=size:=by simp[cdb]
structure Chg(P:Nat)(g:Option Nat)(w:World)(g':Option Nat)(w':World):Prop where
 os:w'.os=w.os
 tape:w'.tape=w.tape
 output:w'.output=w.output
 size:w.heap.size≤w'.heap.size
 row:g'=g∨∀j,g'=some j→w.heap.size≤j
 block:∀i,i<w.heap.size→i≠P→g≠some i→w'.heap[i]? =w.heap[i]?
theorem Chg.refl(P:Nat)(g:Option Nat)(w:World):Chg P g w g w:=⟨rfl,rfl,rfl,Nat.le_refl _,.inl rfl,fun _ _ _ _=>rfl⟩
theorem Chg.trans{P:Nat}{g g' g2:Option Nat}{w w' w2:World}(h:Chg P g w g' w')(k:Chg P g' w' g2 w2):Chg P g w g2 w2:=by
 refine⟨k.os.trans h.os,k.tape.trans h.tape,k.output.trans h.output,Nat.le_trans h.size k.size,?_,fun i hi hP hg=> ?_⟩
 · rcases k.row with e|e
   · rw[e];exact h.row
   · exact .inr fun j hj=>Nat.le_trans h.size (e j hj)
 · have hg':g'≠some i:=by
    rcases h.row with e|e
    · rw[e];exact hg
    · intro q;have:=e i q;omega
   exact(k.block i (Nat.lt_of_lt_of_le hi h.size) hP hg').trans (h.block i hi hP hg)
theorem Chg.of_below{P:Nat}{g:Option Nat}{w w':World}(h:Below w.heap.size w w'):Chg P g w g w':=⟨h.os,h.tape,h.output,h.size,.inl rfl,fun i hi _ _=>h.block i hi⟩
theorem Chg.below{P B:Nat}{g g':Option Nat}{w w':World}(h:Chg P g w g' w')(hB:B≤w.heap.size)(hP:B≤P)(hg:∀j,g=some j→B≤j):Below B w w':=
 ⟨h.os,h.tape,h.output,h.size,fun i hi=>h.block i (by omega) (by omega) (fun e=>by have:=hg i e;omega)⟩
def Ap(P:Nat)(g:Option Nat)(w:World)(b:Nat):Prop:=b<w.heap.size∧b≠P∧g≠some b
theorem Ap.chg{P b:Nat}{g g':Option Nat}{w w':World}(h:Ap P g w b)(c:Chg P g w g' w'):Ap P g' w' b∧w'.heap[b]? =w.heap[b]? :=by
 refine⟨⟨Nat.lt_of_lt_of_le h.1 c.size,h.2.1,?_⟩,c.block b h.1 h.2.1 h.2.2⟩;rcases c.row with e|e
 · rw[e];exact h.2.2
 · intro q;have:=e b q;have:=h.1;omega
structure Bw(B:Nat)(w:World)(P:Nat)(v:Value)(bs:List Nat):Prop where
 bx:w.heap[P]? =some (.cells #[v] 41 (0,0))
 ow:Owb B w v bs
 hB:B≤P
section
variable {B P:Nat} {w w':World} {v:Value} {bs:List Nat}
theorem Bw.lt(h:Bw B w P v bs):P<w.heap.size:=(Array.getElem?_eq_some_iff.1 h.bx).1
theorem Bw.at0(h:Bw B w P v bs):w.cell? ⟨P,0,none⟩=some v:=by have:=h.bx;simp[World.cell?,this]
theorem Bw.free(h:Bw B w P v bs):w.frozen? ⟨P,0,none⟩=false:=by have:=h.bx;simp[World.frozen?,this]
theorem Bw.below(h:Bw B w P v bs)(hb:Below w.heap.size w w'):Bw B w' P v bs:=⟨(hb.block P h.lt).trans h.bx,h.ow.below hb,h.hB⟩
theorem Bw.ne(h:Bw B w P v bs):v.ownBlock≠some P:=fun e=>by
 obtain⟨cs,hc⟩:=h.ow.ty P e;have:=h.bx;rw[hc] at this;injection this with q
 injection q with _ q _
 exact absurd q (by decide)
theorem Bw.store{w1:World}{v1:Value}{bs1:List Nat}(h:Bw B w P v bs)(o1:Owb B w1 v1 bs1)(g1:w.grownBy w1 v.ownBlock)(hr:v1.ownBlock=v.ownBlock∨∀j,v1.ownBlock=some j→w.heap.size≤j):Bw B (w1.setCell ⟨P,0,none⟩ v1) P v1 bs1∧Chg P v.ownBlock w v1.ownBlock (w1.setCell ⟨P,0,none⟩ v1):=by
 have hP:=(g1.block P h.lt (fun e=>h.ne e.symm)).trans h.bx
 have hne:v1.ownBlock≠some P:=by
  rcases hr with e|e
  · rw[e];exact h.ne
  · intro q;have:=e P q;have:=h.lt;omega
 refine⟨⟨?_,o1.at fun g hg=>Below.heap_setCell _ _ _ _ (fun e=>hne (by rw[←(show g=P from e)];exact hg)),h.hB⟩,?_⟩
 · rw[setCell_eq_setRow w1 P 0 #[v] 41 (0,0) v1 hP]
   exact setRow_heap w1 P #[v] #[v1] 41 (0,0) hP
 · refine⟨g1.os,g1.tape,g1.output,by rw[show(w1.setCell ⟨P,0,none⟩ v1).heap.size=w1.heap.size by simp[World.setCell]];exact g1.size,hr,fun i hi hiP hg=>(Below.heap_setCell _ _ _ _ hiP).trans (g1.block i hi (fun e=>hg e.symm))⟩
end
theorem i64_of(a:Nat)(h:a≤9223372036854775807):(BitVec.ofInt 64 (a:Int)).toNat=a:=by
 rw[BitVec.toNat_ofInt]
 have:((a:Int)%(2^64:Nat)).toNat=a:=by
  have e:((2^64:Nat):Int)=18446744073709551616:=by decide
  rw[e];omega
 exact this
theorem and1(a:Nat)(h:a≤9223372036854775807):bits .and .i64 (a:Int) 1=((a%2:Nat):Int):=by
 show IntKind.i64.wrap ((BitVec.ofInt 64 (a:Int)&&&BitVec.ofInt 64 ((1:Nat):Int)).toNat:Int)=_
 rw[BitVec.toNat_and,i64_of a h,i64_of 1 (by omega),Nat.and_one_is_mod,IntKind.wrap_i64];omega
theorem shr_and(n i:Nat)(h:n≤9223372036854775807):bits .and .i64 ((n:Int) /2^i) 1=((n/2^i%2:Nat):Int):=by
 have e1:((2:Int)^i)=((2^i:Nat):Int):=by rw[Int.natCast_pow];rfl
 rw[e1,←Int.natCast_ediv];exact and1 _ (Nat.le_trans (Nat.div_le_self _ _) h)
theorem Owb.form{B:Nat}{w:World}{v:Value}{l:List Nat}(h:Owb B w v l):∃A c,v=.slice A l.length c:=by
 rcases h.2 with⟨rfl,h0⟩|⟨g,cap,cur,rfl,_⟩
 · exact⟨none,0,by rw[h0]⟩
 · exact⟨_,_,rfl⟩
theorem wpList_abl{ops:Array Oper}{rest:List Oper}{o:Oper}{a:Act}{w:World}{Q:Exit→Act→World→Prop}(hgd:o.guard=none)(s x:Operand)
 (ho:o.op=.call {callee:=.builtin .append,args:= #[s,x],argTypes:= #[23,23]}) (B:Nat) (v:Value) (l:List Nat) (hs:a.eval s=v) (h:Owb B w v l) (b c:Nat) (y:Nat)
 (hx:a.eval x=.slice (some ⟨b,0,none⟩) 1 c) (hc:w.cell? ⟨b,0,none⟩=some (.int .u8 (y:Int))) (hL:l.length≤30000000) (hB:B≤w.heap.size)
 (hK:∀A c w',Owb B w' (.slice A (l.length+1) c) (l++[y])→w.grownBy w' v.ownBlock→((Value.slice A (l.length+1) c).ownBlock=v.ownBlock∨(Value.slice A (l.length+1) c).ownBlock=some w.heap.size)→wpList Tryz.prog ops Q rest (a.put o.dst (.slice A (l.length+1) c)) w'):wpList Tryz.prog ops Q (o::rest) a w:=
 wpList_plain hgd fun K hK'=>by
  obtain⟨i,h1,h2,h3,h4⟩:=info_of byteInfo
  obtain⟨v',w',r1,r2,r3,_,r5⟩:=run_append_own_at (P:= Tryz.prog) w B 23 o.type 5 i _ 1 1 Tryz.underlying23 h1 h2 h3 h4 rfl (by decide) v l.length (clb l) h ⟨b,0,none⟩ 1 c (clb [y]) rfl
   (fun j u hu=>by
    rw[nadd_at,Nat.zero_add]
    match j,hu with
    |0,hu=>simp[clb] at hu;subst hu;exact hc
    |j+1,hu=>simp[clb] at hu) (by intro u hu;simp[clb] at hu;rcases hu with rfl;rfl) (by unfold maxLen;omega) (by omega) hB
  have ho2:Owb B w' v' (l++[y]):=by
   unfold Owb;rw[List.length_append,clb_append];exact r2
  obtain⟨A,c',rfl⟩:=Owb.form ho2;rw[List.length_append,List.length_singleton] at ho2 r1 r5;unfold Oper.wp execOp;simp only[ho,resolve,invoke,builtin,Sem.run_bind,Sem.run_pure,Result.andThen_ok,List.map_toArray,List.map_cons,List.map_nil,hs,hx,r1];exact hK' _ _ (hK A c' w' ho2 r3 r5)
set_option maxRecDepth 1000000 in
set_option maxHeartbeats 1000000 in
theorem put_any{B P:Nat}{v:Value}{bs:List Nat}{w:World}(h:Bw B w P v bs)(n k:Nat)(hn:n≤1000000)(hk:k≤20)(hl:bs.length≤20000000)(hB:B≤w.heap.size):
 Calls Tryz.prog 60 #[.pointer (some ⟨P,0,none⟩),.int .i64 n,.int .i64 k] w fun e w'=>e=.returned (.tuple #[])∧∃v',Bw B w' P v' (bs++put n k)∧Chg P v.ownBlock w v'.ownBlock w':=by
 have HH:=hid h;have HBw:=hid hB;clear h hB;go_enter Tryz.func60,Tryz.ntmps60;go_wp2_with fail
 go_loopw [6] (fun x wr=> ∃ (i:Nat) (v1:Value),i≤k∧x=.int .i64 i∧Bw B wr P v1 (bs++put n i)∧Chg P v.ownBlock w v1.ownBlock wr) (fun x _=>k - (intOf x).toNat)
 case atStart=>exact⟨0,v,Nat.zero_le _,rfl,by simpa [put] using HH.out,Chg.refl _ _ _⟩
 case round=>
  obtain⟨i,v1,hi,rfl,hb,hc⟩:=hrel;have HB1:=hid hb;have HC1:=hid hc;by_cases hlt:i<k
  · have d1:decide ((i:Int)<(k:Int))=true:=decide_eq_true (by omega)
    have d1':decide (i<k)=true:=decide_eq_true hlt;have a0:=hb.at0;have af:=hb.free;obtain⟨x,hx⟩:∃x,n/2^i%2=x:=⟨_,rfl⟩
    have hq:bits .and .i64 ((n:Int) /2^i) 1=(x:Int):=by rw[shr_and n i (by omega),hx]
    have hx1:x≤1:=by omega
    have HX:=hid hx;clear hb hc hx;obtain⟨m,hm⟩:∃m,(bs++put n i).length=m:=⟨_,rfl⟩
    go_wp2_with (at_builtin;refine wpList_abl rfl (.tmp 16) (.tmp 23) rfl B v1 (bs++put n i) rfl (HB1.out.ow.alloc _) wr.heap.size 1 x rfl (by simp) (by rw[List.length_append,put_length];omega) (by have:=HB1.out.hB;have:=HB1.out.lt;simp;omega) ?_;intro A2 c2 w2 o2 g2 l2;have g3:=(World.grownBy_alloc wr (.cells #[.int .u8 x] 5) v1.ownBlock).trans g2;have hPb:=g3.block P HB1.out.lt (fun e=>HB1.out.ne e.symm);have p0:=(World.cell?_of_block (a:=⟨P,0,none⟩) hPb).trans HB1.out.at0;have pf:=(World.frozen?_of_block (a:=⟨P,0,none⟩) hPb).trans HB1.out.free;have HS:=hid (HB1.out.store o2 g3 (l2.elim .inl (fun e=> .inr fun j hj=>by rw[e] at hj;injection hj with hj;rw[←hj];simp)));clear o2 g2 l2 g3 hPb);go_roundw
    case rel=>exact⟨i+1,_,by omega,by go_num,by have:=HS.out.1;rw[hm,←HX.out,List.append_assoc,←put_succ] at this;exact this,by have:=HS.out.2;rw[hm] at this;exact HC1.out.trans this⟩
    case measure=>(simp[intOf];try omega)
  · obtain rfl:i=k:=by omega
    have d1:decide ((i:Int)<(i:Int))=false:=decide_eq_false (by omega);have d1':decide (i<i)=false:=decide_eq_false (by omega);clear hb hc;go_wp2_with fail;go_end0;exact⟨rfl,v1,HB1.out,HC1.out⟩
theorem step_abl{ops:Array Oper}{o:Oper}{a:Act}{w:World}{K:Act→World→Prop}{Q:Exit→Act→World→Prop}{E:Prop}(hgd:o.guard=none)(s x:Operand)
 (ho:o.op=.call {callee:=.builtin .append,args:= #[s,x],argTypes:= #[23,23]}) (B:Nat) (v:Value) (l:List Nat) (hs:a.eval s=v) (h:Owb B w v l) (b c:Nat) (y:Nat)
 (hx:a.eval x=.slice (some ⟨b,0,none⟩) 1 c) (hc:w.cell? ⟨b,0,none⟩=some (.int .u8 (y:Int))) (hL:l.length≤30000000) (hB:B≤w.heap.size)
 (hK:∀A c w',Owb B w' (.slice A (l.length+1) c) (l++[y])→w.grownBy w' v.ownBlock→((Value.slice A (l.length+1) c).ownBlock=v.ownBlock∨(Value.slice A (l.length+1) c).ownBlock=some w.heap.size)→K (a.put o.dst (.slice A (l.length+1) c)) w'):
 if Region.wanted o (yielded ops a.tmps)=true then Oper.wp Tryz.prog o a w K Q else E:=by
 have hw:Region.wanted o (yielded ops a.tmps)=true:=by simp[Region.wanted,hgd]
 rw[if_pos hw];obtain⟨i,h1,h2,h3,h4⟩:=info_of byteInfo
 obtain⟨v',w',r1,r2,r3,_,r5⟩:=run_append_own_at (P:= Tryz.prog) w B 23 o.type 5 i _ 1 1 Tryz.underlying23 h1 h2 h3 h4 rfl (by decide) v l.length (clb l) h ⟨b,0,none⟩ 1 c (clb [y]) rfl
  (fun j u hu=>by
   rw[nadd_at,Nat.zero_add]
   match j,hu with
   |0,hu=>simp[clb] at hu;subst hu;exact hc
   |j+1,hu=>simp[clb] at hu) (by intro u hu;simp[clb] at hu;rcases hu with rfl;rfl) (by unfold maxLen;omega) (by omega) hB
 have ho2:Owb B w' v' (l++[y]):=by
  unfold Owb;rw[List.length_append,clb_append];exact r2
 obtain⟨A,c',rfl⟩:=Owb.form ho2;rw[List.length_append,List.length_singleton] at ho2 r1 r5;unfold Oper.wp execOp;simp only[ho,resolve,invoke,builtin,Sem.run_bind,Sem.run_pure,Result.andThen_ok,List.map_toArray,List.map_cons,List.map_nil,hs,hx,r1];exact hK A c' w' ho2 r3 r5
theorem u32_of(a:Nat)(h:a<4294967296):(BitVec.ofInt 32 (a:Int)).toNat=a:=by
 rw[BitVec.toNat_ofInt]
 have:((a:Int)%(2^32:Nat)).toNat=a:=by
  have e:((2^32:Nat):Int)=4294967296:=by decide
  rw[e];omega
 exact this
theorem and1u(a:Nat)(h:a<4294967296):bits .and .u32 (a:Int) 1=((a%2:Nat):Int):=by
 show IntKind.u32.wrap ((BitVec.ofInt 32 (a:Int)&&&BitVec.ofInt 32 ((1:Nat):Int)).toNat:Int)=_
 rw[BitVec.toNat_and,u32_of a h,u32_of 1 (by omega),Nat.and_one_is_mod];simp[IntKind.wrap,IntKind.signed,IntKind.bits];omega
theorem shr_andu(n i:Nat)(h:n<4294967296):bits .and .u32 ((n:Int) /2^i) 1=((n/2^i%2:Nat):Int):=by
 have e1:((2:Int)^i)=((2^i:Nat):Int):=by rw[Int.natCast_pow];rfl
 rw[e1,←Int.natCast_ediv];exact and1u _ (Nat.lt_of_le_of_lt (Nat.div_le_self _ _) h)
theorem cdb_take(c s j:Nat)(h:j<s):(cdb c s).take (j+1)=(cdb c s).take j++[c/2^(s - 1 - j)%2]:=by
 rw[List.take_add_one];unfold cdb;rw[List.getElem?_map,List.getElem?_range h];rfl
theorem Bw.app{B P:Nat}{wr w2:World}{v1 v2:Value}{b1 b2:List Nat}(h:Bw B wr P v1 b1)(o:Obj)(g2:((wr.alloc o).drew).grownBy w2 v1.ownBlock)(o2:Owb B w2 v2 b2)(l2:v2.ownBlock=v1.ownBlock∨v2.ownBlock=some ((wr.alloc o).drew.heap.size)):
 w2.cell? ⟨P,0,none⟩=some v1∧w2.frozen? ⟨P,0,none⟩=false∧wr.grownBy w2 v1.ownBlock∧Bw B (w2.setCell ⟨P,0,none⟩ v2) P v2 b2∧Chg P v1.ownBlock wr v2.ownBlock (w2.setCell ⟨P,0,none⟩ v2):=by
 have g3:wr.grownBy w2 v1.ownBlock:=by
  have g:=World.grownBy_alloc wr o v1.ownBlock;exact⟨g2.os.trans g.os,g2.tape.trans g.tape,g2.output.trans g.output,Nat.le_trans g.size g2.size,fun i hi hne=>(g2.block i (Nat.lt_of_lt_of_le hi g.size) hne).trans (g.block i hi hne)⟩
 have hPb:=g3.block P h.lt (fun e=>h.ne e.symm);obtain⟨s1,s2⟩:=h.store o2 g3 (l2.elim .inl (fun e=> .inr fun j hj=>by rw[e] at hj;injection hj with hj;rw[←hj];show wr.heap.size≤(wr.alloc o).heap.size;simp));exact⟨(World.cell?_of_block (a:=⟨P,0,none⟩) hPb).trans h.at0,(World.frozen?_of_block (a:=⟨P,0,none⟩) hPb).trans h.free,g3,s1,s2⟩
def Cb(w:World)(T c s:Nat):Prop:=w.heap[T]? =some (.cells #[.int .u32 (c:Int),.int .u8 (s:Int)] 125 (0,0))
set_option maxRecDepth 1000000 in
set_option maxHeartbeats 2000000 in
theorem code_any{B P:Nat}{v:Value}{bs:List Nat}{w:World}(h:Bw B w P v bs)(c s:Nat)(hc32:c<4294967296)(hs:s≤15)(hl:bs.length≤20000000)(hB:B≤w.heap.size):
 Calls Tryz.prog 63 #[.pointer (some ⟨P,0,none⟩),.agg #[.int .u32 c,.int .u8 s]] w fun e w'=>e=.returned (.tuple #[])∧∃v',Bw B w' P v' (bs++cdb c s)∧Chg P v.ownBlock w v'.ownBlock w':=by
 have hb0:Below w.heap.size w (w.alloc (.cells #[.int .u32 c,.int .u8 s] 125)):=(Below.refl _ _).alloc (Nat.le_refl _) _;have HH:=hid (h.below hb0);have HC0:=hid (Chg.of_below (P:=P) (g:=v.ownBlock) hb0);have HT0:=hid (show Cb (w.alloc (.cells #[.int .u32 c,.int .u8 s] 125)) w.heap.size c s from heap_alloc_new _ _);have HBw:=hid hB;have HPT:=hid (show w.heap.size≠P from fun e=>by have:=h.lt;omega);have HOL:=hid (show ∀j,v.ownBlock=some j→j<w.heap.size from fun j hj=>(h.ow.lt j hj).2);clear h hB hb0;go_enter Tryz.func63,Tryz.ntmps63;go_wp2_with fail
 go_loopw [4] (fun x wr=> ∃ (j:Nat) (v1:Value),j≤s∧x=.int .i64 ((s:Int) - 1 - j)∧Bw B wr P v1 (bs++(cdb c s).take j)∧Chg P v.ownBlock w v1.ownBlock wr∧Cb wr w.heap.size c s∧v1.ownBlock≠some w.heap.size) (fun x _=>(intOf x+1).toNat)
 case atStart=>exact⟨0,v,Nat.zero_le _,by simp,by simpa using HH.out,HC0.out,HT0.out,fun e=>by have:=HOL.out _ e;omega⟩
 case round=>
  obtain⟨j,v1,hj,rfl,hb,hc,hT,hv⟩:=hrel;have HB1:=hid hb;have HC1:=hid hc;have HT1:=hid hT;have HV1:=hid hv;by_cases hlt:j<s
  · obtain⟨sh,hsh⟩:∃sh,s - 1 - j=sh:=⟨_,rfl⟩
    have esh:(s:Int) - 1 - (j:Int)=(sh:Int):=by omega
    rw[esh];have d1:decide (0≤(sh:Int))=true:=decide_eq_true (by omega);have a0:=hb.at0;have af:=hb.free;have a0a:∀o:Obj,(wr.alloc o).cell? ⟨P,0,none⟩=some v1:=fun o=>Bw.at0 (hb.below ((Below.refl _ _).alloc (Nat.le_refl _) o))
    have t0:wr.cell? ⟨w.heap.size,0,none⟩=some (.int .u32 c):=by unfold Cb at hT;simp[World.cell?,hT]
    obtain⟨x,hx⟩:∃x,c/2^sh%2=x:=⟨_,rfl⟩
    have hq:bits .and .u32 ((c:Int) /2^sh) 1=(x:Int):=by rw[shr_andu c sh hc32,hx]
    have hx1:x≤1:=by omega
    have HX:=hid hx;have HSh:=hid (And.intro hsh (And.intro hlt esh));have hshb:sh≤15:=by omega
    have hw:IntKind.u8.wrap (bits .and .u32 ((c:Int) /2^min (IntKind.u64.wrap (sh:Int)).toNat 32) 1)=(x:Int):=by
     have e1:IntKind.u64.wrap (sh:Int)=(sh:Int):=by simp[IntKind.wrap,IntKind.signed,IntKind.bits];omega
     rw[e1,Int.toNat_natCast,Nat.min_eq_left (by omega),hq];simp[IntKind.wrap,IntKind.signed,IntKind.bits];omega
    obtain⟨b1,hb1⟩:∃b1,bs++(cdb c s).take j=b1:=⟨_,rfl⟩
    rw[hb1] at HB1;have hmb:b1.length≤29000000:=by rw[←hb1,List.length_append,List.length_take,cdb_length];omega
    have HM:=hid (And.intro hb1 hmb);clear hb hc hx hT hv hsh hlt esh hb1 hmb hq;go_wp2_with fail
    go_region_law (refine step_abl rfl (.tmp 17) (.tmp 25) rfl B v1 b1 (by simp[Act.eval]) (HB1.out.ow.alloc _) wr.heap.size 1 x (by simp[Act.eval]) (by simp) (by have:=HM.out.2;omega) (by have:=HB1.out.hB;have:=HB1.out.lt;simp;omega) ?_;intro A2 c2 w2 o2 g2 l2;obtain⟨p0,pf,g3,s1,s2⟩:=HB1.out.app _ g2 o2 l2;have HG3:=hid g3;have HS1:=hid s1;have HS2:=hid s2;clear o2 g2 l2 g3 s1 s2)
    all_goals
     have HC2:=hid (show Cb (w2.setCell ⟨P,0,none⟩ (.slice A2 (b1.length+1) c2)) w.heap.size c s from(Below.heap_setCell _ _ _ _ HPT.out).trans ((HG3.out.block w.heap.size (Array.getElem?_eq_some_iff.1 HT1.out).1 (fun e=>HV1.out e.symm)).trans HT1.out))
     have HV2:=hid (show(Value.slice A2 (b1.length+1) c2).ownBlock≠some w.heap.size from by
      rcases HS2.out.row with e|e
      · rw[e];exact HV1.out
      · intro q;have:=e _ q;have:=(Array.getElem?_eq_some_iff.1 HT1.out).1;omega)
     have HS3:=hid (show Bw B (w2.setCell ⟨P,0,none⟩ (.slice A2 (b1.length+1) c2)) P (.slice A2 (b1.length+1) c2) (bs++(cdb c s).take (j+1)) from by
      have:=HS1.out;obtain⟨q1,q2,q3⟩:=HSh.out;rw[cdb_take c s j q2,q1,HX.out,←List.append_assoc,HM.out.1];exact this)
     have hsh2:(sh:Int) - 1=(s:Int) - 1 - ((j+1:Nat):Int):=by have:=HSh.out;omega
     have HSh2:=hid hsh2;clear HS1 hsh2;go_wp2_with fail;go_roundw
     case rel=>exact⟨j+1,_,by have:=HSh.out;omega,by rw[HSh2.out],HS3.out,HC1.out.trans HS2.out,HC2.out,HV2.out⟩
     case measure=>(have:=HSh.out;simp[intOf];try omega)
  · obtain rfl:j=s:=by omega
    have d1:decide (0≤(j:Int) - 1 - (j:Int))=false:=decide_eq_false (by omega);clear hb hc hT hv;go_wp2_with fail;go_end0;exact⟨rfl,v1,by have:=HB1.out;rw[List.take_of_length_le (by rw[cdb_length];exact Nat.le_refl _)] at this;exact this,HC1.out⟩
def hdb(kind:Nat)(last:Bool):List Nat:=put (if last then 1 else 0) 1++put kind 2
theorem hdb_length(kind:Nat)(last:Bool):(hdb kind last).length=3:=by simp[hdb,put_length]
theorem head_any{B P:Nat}{v:Value}{bs:List Nat}{w:World}(h:Bw B w P v bs)(kind:Nat)(last:Bool)(hk:kind≤255)(hl:bs.length≤19000000)(hB:B≤w.heap.size):
 Calls Tryz.prog 39 #[.pointer (some ⟨P,0,none⟩),.int .u8 kind,.bool last] w fun e w'=>e=.returned (.tuple #[])∧∃v',Bw B w' P v' (bs++hdb kind last)∧Chg P v.ownBlock w v'.ownBlock w':=by
 unfold hdb;cases last
 · have H1:=hid (show Calls Tryz.prog 60 #[.pointer (some ⟨P,0,none⟩),.int .i64 0,.int .i64 1] w fun e w'=>e=.returned (.tuple #[])∧∃v',Bw B w' P v' (bs++put 0 1)∧Chg P v.ownBlock w v'.ownBlock w' from put_any h 0 1 (by omega) (by omega) (by omega) hB)
   have H2:=hid (show ∀ (v1:Value) (w1:World),Bw B w1 P v1 (bs++put 0 1)→w.heap.size≤w1.heap.size→Calls Tryz.prog 60 #[.pointer (some ⟨P,0,none⟩),.int .i64 kind,.int .i64 2] w1 fun e w'=>e=.returned (.tuple #[])∧∃v',Bw B w' P v' ((bs++put 0 1)++put kind 2)∧Chg P v1.ownBlock w1 v'.ownBlock w' from fun v1 w1 h1 hs=>put_any h1 kind 2 (by omega) (by omega) (by rw[List.length_append,put_length];omega) (by omega));clear h;go_enter Tryz.func39,Tryz.ntmps39
   go_wp2_with (first
    |(go_at_call 60;(with_reducible refine H1.out.mono ?_);rintro e w1 ⟨rfl,v1,b1,c1⟩;have HB1:=hid b1;have HC1:=hid c1;clear b1 c1)
    |(go_at_call 60;(with_reducible refine(H2.out v1 w1 HB1.out HC1.out.size).mono ?_);rintro e w2 ⟨rfl,v2,b2,c2⟩;have HB2:=hid b2;have HC2:=hid (HC1.out.trans c2);clear b2 c2))
   go_end0;exact⟨rfl,v2,by have:=HB2.out;rw[List.append_assoc] at this;exact this,HC2.out⟩
 · have H1:=hid (show Calls Tryz.prog 60 #[.pointer (some ⟨P,0,none⟩),.int .i64 1,.int .i64 1] w fun e w'=>e=.returned (.tuple #[])∧∃v',Bw B w' P v' (bs++put 1 1)∧Chg P v.ownBlock w v'.ownBlock w' from put_any h 1 1 (by omega) (by omega) (by omega) hB)
   have H2:=hid (show ∀ (v1:Value) (w1:World),Bw B w1 P v1 (bs++put 1 1)→w.heap.size≤w1.heap.size→Calls Tryz.prog 60 #[.pointer (some ⟨P,0,none⟩),.int .i64 kind,.int .i64 2] w1 fun e w'=>e=.returned (.tuple #[])∧∃v',Bw B w' P v' ((bs++put 1 1)++put kind 2)∧Chg P v1.ownBlock w1 v'.ownBlock w' from fun v1 w1 h1 hs=>put_any h1 kind 2 (by omega) (by omega) (by rw[List.length_append,put_length];omega) (by omega));clear h;go_enter Tryz.func39,Tryz.ntmps39
   go_wp2_with (first
    |(go_at_call 60;(with_reducible refine H1.out.mono ?_);rintro e w1 ⟨rfl,v1,b1,c1⟩;have HB1:=hid b1;have HC1:=hid c1;clear b1 c1)
    |(go_at_call 60;(with_reducible refine(H2.out v1 w1 HB1.out HC1.out.size).mono ?_);rintro e w2 ⟨rfl,v2,b2,c2⟩;have HB2:=hid b2;have HC2:=hid (HC1.out.trans c2);clear b2 c2))
   go_end0;exact⟨rfl,v2,by have:=HB2.out;rw[List.append_assoc] at this;exact this,HC2.out⟩
def upt(l:List Nat)(least:Nat):Nat:=(List.range l.length).foldl (fun n i=>if 0<l.getD i 0 then max n (i+1) else n) least
def upk(l:List Nat)(least k:Nat):Nat:=(List.range k).foldl (fun n i=>if 0<l.getD i 0 then max n (i+1) else n) least
theorem upk_succ(l:List Nat)(least k:Nat):upk l least (k+1)=if 0<l.getD k 0 then max (upk l least k) (k+1) else upk l least k:=by
 unfold upk;rw[List.range_succ,List.foldl_append];rfl
theorem upk_le(l:List Nat)(least:Nat):∀k,least≤upk l least k∧upk l least k≤max least k
 |0=>⟨Nat.le_refl _,by unfold upk;exact Nat.le_max_left _ _⟩
 |k+1=>by
  have:=upk_le l least k;rw[upk_succ]
  split<;>omega
set_option maxRecDepth 1000000 in
theorem upto_any(A:Option Addr)(n c:Nat)(l:List Nat)(least:Nat)(w:World)(H:IsBys w A n l)(hn:n≤1000)(hl:least≤1000):
 Calls Tryz.prog 66 #[.slice A n c,.int .i64 least] w fun e w'=>e=.returned (.int .i64 (upt l least:Nat))∧w=w':=by
 have hu:upt l least=upk l least n:=by unfold upt upk;rw[H.leng]
 rw[hu];have HH:=hid H;clear H hu;go_enter Tryz.func66,Tryz.ntmps66;go_wp2_with fail
 go_loopw [5,6] (fun y x wr=> ∃k:Nat,k≤n∧x=.int .i64 k∧y=.int .i64 (upk l least k:Nat)∧w=wr) (fun _ x _=>n - (intOf x).toNat)
 case atStart=>exact⟨0,Nat.zero_le _,rfl,rfl,rfl⟩
 case round=>
  obtain⟨k,hk,rfl,rfl,rfl⟩:=hrel;have hub:=upk_le l least k;have hs:=upk_succ l least k;obtain⟨u,hu⟩:∃u,upk l least k=u:=⟨_,rfl⟩
  rw[hu] at hub hs ⊢;by_cases hlt:k<n
  · have d1:decide ((k:Int)<(n:Int))=true:=decide_eq_true (by omega)
    have d1':decide (k<n)=true:=decide_eq_true hlt;obtain⟨b,o,rfl,hbb,hc⟩:=HH.out.at (by omega);have c0:=hc k hlt;obtain⟨x,hx⟩:∃x,l.getD k 0=x:=⟨_,rfl⟩
    rw[hx] at c0 hs;by_cases hp:0<x
    · have d2:decide (0<(x:Int))=true:=decide_eq_true (by omega)
      have d2':decide (0<x)=true:=decide_eq_true hp;rw[if_pos hp] at hs;obtain⟨m,hm⟩:∃m,max u (k+1)=m:=⟨_,rfl⟩
      rw[hm] at hs;obtain⟨k1,hk1⟩:∃k1,k+1=k1:=⟨_,rfl⟩
      have ek:(k:Int)+1=(k1:Int):=by omega
      have m1:(if(u:Int)<(k1:Int) then(k1:Int) else(u:Int))=(m:Int):=by split<;>omega
      have m2:(if(k1:Int)<(u:Int) then(u:Int) else(k1:Int))=(m:Int):=by split<;>omega
      have m3:(if u<k1 then(k1:Int) else(u:Int))=(m:Int):=by split<;>omega
      have m4:(if k1<u then(u:Int) else(k1:Int))=(m:Int):=by split<;>omega
      have HS:=hid hs;have HK:=hid (show k+1≤n∧k1=k+1 from by omega);have hkb:k1≤1000:=by omega
      clear hc hx hp hu hs hub hm hk1;go_wp2_with fail;go_roundw
      case rel=>exact⟨k+1,HK.out.1,by rw[HK.out.2],by rw[HS.out],trivial⟩
      case measure=>(have:=HK.out;simp[intOf];try omega)
    · have d2:decide (0<(x:Int))=false:=decide_eq_false (by omega)
      have d2':decide (0<x)=false:=decide_eq_false hp;rw[if_neg hp] at hs;have HS:=hid hs;clear hc hx hp hu hs hub;go_wp2_with fail;go_roundw
      case rel=>exact⟨k+1,by omega,by go_num,by rw[HS.out],trivial⟩
      case measure=>(simp[intOf];try omega)
  · obtain rfl:k=n:=by omega
    have d1:decide ((k:Int)<(k:Int))=false:=decide_eq_false (by omega);have d1':decide (k<k)=false:=decide_eq_false (by omega);have HU:=hid hu;clear hu hs hub;go_wp2_with fail;go_ret;exact⟨by rw[HU.out];rfl,rfl⟩
def bty(s:ByteArray)(i:Nat):Nat:=(s.data.toList.getD i 0).toNat
theorem bty_lt(s:ByteArray)(i:Nat):bty s i≤255:=by unfold bty;have:=(s.data.toList.getD i 0).toNat_lt;omega
theorem bty_eq{s:ByteArray}{i:Nat}(h:i<s.size):(s[i]'h).toNat=bty s i:=by
 unfold bty;rw[List.getD,List.getElem?_eq_getElem (by rw[Array.length_toList];exact h)];rfl
def byb(s:ByteArray)(k:Nat):List Nat:=(List.range k).flatMap fun i=>put (bty s i) 8
theorem byb_succ(s:ByteArray)(k:Nat):byb s (k+1)=byb s k++put (bty s k) 8:=by unfold byb;rw[List.range_succ,List.flatMap_append];simp
theorem byb_length(s:ByteArray):∀k,(byb s k).length=k*8
 |0=>rfl
 |k+1=>by rw[byb_succ,List.length_append,byb_length s k,put_length];omega
def pd(n:Nat):Nat:=(8 - n%8)%8
def stb(o:Nat)(s:ByteArray)(last:Bool):List Nat:=hdb 0 last++List.replicate (pd (o+3)) 0++put s.size 16++put (65535 - s.size) 16++byb s s.size
theorem stb_length(o:Nat)(s:ByteArray)(last:Bool):(stb o s last).length=3+pd (o+3)+32+s.size*8:=by
 unfold stb;simp only[List.length_append,hdb_length,List.length_replicate,put_length,byb_length]
def sln(P:Nat)(w:World):Nat:=match w.cell? ⟨P,0,none⟩ with
 |some (.slice _ n _)=>n
 |_=>0
theorem Bw.sln{B P:Nat}{w:World}{v:Value}{bs:List Nat}(h:Bw B w P v bs):sln P w=bs.length:=by
 obtain⟨A,c,rfl⟩:=Owb.form h.ow;unfold V.sln;rw[h.at0]
def stm(o:Nat)(s:ByteArray)(last:Bool):List Nat:=
 if h:s.size≤65535 then stb o s last else stb o (s.extract 0 65535) false++stm (o+(stb o (s.extract 0 65535) false).length) (s.extract 65535 s.size) last
termination_by s.size
decreasing_by
 rw[ByteArray.size_extract];omega
theorem stm_one{o:Nat}{s:ByteArray}{last:Bool}(h:s.size≤65535):stm o s last=stb o s last:=by rw[stm,dif_pos h]
theorem stm_more{o:Nat}{s:ByteArray}{last:Bool}(h:¬s.size≤65535):stm o s last=stb o (s.extract 0 65535) false++stm (o+(stb o (s.extract 0 65535) false).length) (s.extract 65535 s.size) last:=by rw[stm,dif_neg h]
theorem str_none{l:ByteArray}(h:l.size=0):l.toList.isEmpty=true:=by
 rw[ByteArray.toList_eq];have h1:l.data.toList.length=l.size:=by rw[Array.length_toList];rfl
 cases e:l.data.toList with
 |nil=>rfl
 |cons x y=>rw[e] at h1;simp at h1;omega
theorem str_some{l:ByteArray}(h:0<l.size):l.toList.isEmpty=false:=by
 rw[ByteArray.toList_eq];have h1:l.data.toList.length=l.size:=by rw[Array.length_toList];rfl
 cases e:l.data.toList with
 |nil=>rw[e] at h1;simp at h1;omega
 |cons x y=>rfl
theorem bty_extract{s:ByteArray}{n i:Nat}(h:i<n)(hn:n≤s.size):bty (s.extract 0 n) i=bty s i:=by
 unfold bty;rw[ByteArray.data_extract,Array.toList_extract,List.extract_eq_take_drop,List.drop_zero,Nat.sub_zero,List.getD,List.getD,List.getElem?_take,if_pos h]
theorem byb_extract{s:ByteArray}{n:Nat}(hn:n≤s.size):∀k,k≤n→byb (s.extract 0 n) k=byb s k
 |0,_=>rfl
 |k+1,h=>by rw[byb_succ,byb_succ,byb_extract hn k (by omega),bty_extract (by omega) hn]
def rnb(o:Nat)(s:ByteArray)(m:Nat)(fl:Bool):List Nat:=hdb 0 fl++List.replicate (pd (o+3)) 0++put m 16++put (65535 - m) 16++byb s m
theorem rnb_len(o:Nat)(s:ByteArray)(m:Nat)(fl:Bool):(rnb o s m fl).length=3+pd (o+3)+32+m*8:=by
 unfold rnb;simp only[List.length_append,hdb_length,List.length_replicate,put_length,byb_length]
theorem stm_rnb{o:Nat}{s:ByteArray}{last:Bool}(h:s.size≤65535):stm o s last=rnb o s s.size last:=stm_one h
theorem stm_rnb_more{o:Nat}{s:ByteArray}{last:Bool}(h:¬s.size≤65535):stm o s last=rnb o s 65535 false++stm (o+(rnb o s 65535 false).length) (s.extract 65535 s.size) last:=by
 have e:stb o (s.extract 0 65535) false=rnb o s 65535 false:=by
  have h1:(s.extract 0 65535).size=65535:=by rw[ByteArray.size_extract];omega
  unfold stb rnb;rw[h1,byb_extract (by omega) 65535 (Nat.le_refl _)]
 rw[stm_more h,e]
def vsz:Value→Nat
 |.string s=>s.size
 |_=>0
theorem pd_step{n:Nat}(h:n%8≠0):pd n=pd (n+1)+1:=by unfold pd;omega
theorem pd_zero{n:Nat}(h:n%8=0):pd n=0:=by unfold pd;omega
set_option maxRecDepth 1000000 in
set_option maxHeartbeats 8000000 in
theorem stored_any{B P:Nat}{v:Value}{bs0:List Nat}{w:World}(h:Bw B w P v bs0)(raw:ByteArray)(last:Bool)(hl:bs0.length+9*raw.size≤10000000)(hB:B≤w.heap.size):
 Calls Tryz.prog 38 #[.pointer (some ⟨P,0,none⟩),.string raw,.bool last] w fun e w'=>e=.returned (.tuple #[])∧∃v',Bw B w' P v' (bs0++stm bs0.length raw last)∧Chg P v.ownBlock w v'.ownBlock w':=by
 obtain⟨Z,hZ⟩:∃Z,bs0++stm bs0.length raw last=Z:=⟨_,rfl⟩
 rw[hZ];obtain⟨L0,hL0⟩:∃L0,last=L0:=⟨_,rfl⟩
 rw[hL0] at hZ;have HH:=hid h;have HBw:=hid hB;have HL:=hid hl;have HZ:=hid hZ;clear h hB hl hZ;cases last
 all_goals
  have HL0:=hid hL0;clear hL0;go_enter Tryz.func38,Tryz.ntmps38;go_wp2_with fail
  go_loopw [1] (fun x wr=> ∃ (r:ByteArray) (bs:List Nat) (v0:Value),x=.string r∧bs.length+9*r.size≤10000000∧bs++stm bs.length r L0=Z∧Bw B wr P v0 bs∧Chg P v.ownBlock w v0.ownBlock wr) (fun x _=>vsz x)
  case atStart=>exact⟨raw,bs0,v,rfl,HL.out,HZ.out,HH.out,Chg.refl _ _ _⟩
  case round=>
   obtain⟨r,bs,v0,rfl,hlr,hzr,hb0,hc0⟩:=hrel;obtain⟨R,hR⟩:∃R,r.size=R:=⟨_,rfl⟩
   have hm1:(r.size:Int)=(R:Int):=by rw[hR]
   obtain⟨m,hm⟩:∃m,min R 65535=m:=⟨_,rfl⟩
   obtain⟨b,hbe⟩:∃b,decide (R≤65535)=b:=⟨_,rfl⟩
   have k0:min (R:Int) 65535=(m:Int):=by omega
   have k1:(if(R:Int)<65535 then(R:Int) else 65535)=(m:Int):=by split<;>omega
   have k2:(if(65535:Int)<(R:Int) then(65535:Int) else(R:Int))=(m:Int):=by split<;>omega
   have k3:(if R<65535 then(R:Int) else 65535)=(m:Int):=by split<;>omega
   have k4:(if 65535<R then(65535:Int) else(R:Int))=(m:Int):=by split<;>omega
   have k5:((m:Int)==(R:Int))=b:=by
    rw[←hbe];by_cases q:R≤65535
    · rw[decide_eq_true q,beq_iff_eq];omega
    · rw[decide_eq_false q,beq_eq_false_iff_ne];omega
   have k6:decide (m=R)=b:=by
    rw[←hbe];by_cases q:R≤65535
    · rw[decide_eq_true q,decide_eq_true (by omega)]
    · rw[decide_eq_false q,decide_eq_false (by omega)]
   obtain⟨lb,hlb⟩:∃lb,(L0&&b)=lb:=⟨_,rfl⟩
   obtain⟨mc,hmc⟩:∃mc,65535 - m=mc:=⟨_,rfl⟩
   have emc:(65535:Int) - (m:Int)=(mc:Int):=by omega
   have hmb:m≤65535:=by omega
   have hmcb:mc≤65535:=by omega
   have hmr:m≤R:=by omega
   have hbl:bs.length≤10000000:=by omega
   have hrnb:rnb bs.length r m lb=hdb 0 lb++List.replicate (pd (bs.length+3)) 0++put m 16++put mc 16++byb r m:=by unfold rnb;rw[hmc]
   have hrl:=rnb_len bs.length r m lb
   have hEnd:R≤65535→(r.extract m r.size).toList.isEmpty=true∧bs++rnb bs.length r m lb=Z:=fun q=>by
    have e:m=R:=by omega
    refine⟨str_none (by rw[ByteArray.size_extract];omega),?_⟩;rw[←hzr,stm_rnb (o:=bs.length) (s:=r) (last:=L0) (by omega),hR,e];rw[←hlb,←hbe,decide_eq_true q,Bool.and_true]
   have hMore:¬R≤65535→(r.extract m r.size).toList.isEmpty=false∧(bs++rnb bs.length r m lb).length+9*(r.extract m r.size).size≤10000000∧(bs++rnb bs.length r m lb)++stm (bs++rnb bs.length r m lb).length (r.extract m r.size) L0=Z∧(r.extract m r.size).size<R:=fun q=>by
    have e:m=65535:=by omega
    have hs:(r.extract m r.size).size=R - 65535:=by rw[ByteArray.size_extract];omega
    have hp:pd (bs.length+3)≤7:=by unfold pd;omega
    refine⟨str_some (by omega),by rw[List.length_append,hrl,hs];omega,?_,by omega⟩;rw[←hzr,stm_rnb_more (o:=bs.length) (s:=r) (last:=L0) (by omega),e,List.length_append,List.append_assoc];rw[←hlb,←hbe,decide_eq_false q,Bool.and_false]
   have HEnd:=hid hEnd;have HMore:=hid hMore;have HRn:=hid hrnb;have HR:=hid hR;have HMr:=hid hmr;have HHd:=hid (show ∀bb,lb=bb→Calls Tryz.prog 39 #[.pointer (some ⟨P,0,none⟩),.int .u8 0,.bool bb] wr fun e w'=>e=.returned (.tuple #[])∧∃v',Bw B w' P v' (bs++hdb 0 lb)∧Chg P v0.ownBlock wr v'.ownBlock w' from fun bb hbb=>by subst hbb;exact head_any hb0 0 lb (by omega) (by omega) (Nat.le_trans HBw.out hc0.size));have HC0:=hid hc0;obtain⟨E,hE⟩:∃E,r.extract m r.size=E:=⟨_,rfl⟩
   rw[hE] at HEnd HMore;have HLB:=hid hlb;clear hlb;clear hR hm hbe hmc hmr hrnb hrl hEnd hMore hb0 hc0 hlr hzr;go_wp2_with (go_at_call 39;(with_reducible refine(HHd.out _ (by rw[←HLB.out,←HL0.out];first|exact Bool.false_and _|exact Bool.true_and _)).mono ?_);rintro e w1 ⟨rfl,v1,b1,c1⟩;have HB1:=hid b1;have HC1:=hid (HC0.out.trans c1);clear b1 c1)
   go_loopw [20] (fun _ wr=> ∃ (i:Nat) (v2:Value),i+pd (bs.length+3+i)=pd (bs.length+3)∧Bw B wr P v2 (bs++hdb 0 lb++List.replicate i 0)∧Chg P v.ownBlock w v2.ownBlock wr) (fun _ wr=>pd (sln P wr))
   case atStart=>exact⟨0,v1,by rw[Nat.add_zero,Nat.zero_add],by simpa using HB1.out,HC1.out⟩
   case round=>
    obtain⟨i,v2,hi,hb2,hc2⟩:=hrel;obtain⟨A2,c2,rfl⟩:=Owb.form hb2.ow;obtain⟨q,hq⟩:∃q,(bs++hdb 0 lb++List.replicate i 0).length=q:=⟨_,rfl⟩
    have hq2:q=bs.length+3+i:=by rw[←hq,List.length_append,List.length_append,hdb_length,List.length_replicate]
    have a0:=hb2.at0;have hsl:=hb2.sln;rw[hq] at hb2 hc2 a0 hsl;have HB2:=hid hb2;have HC2:=hid hc2;have HSl:=hid hsl;have hi8:i≤8:=by unfold pd at hi;omega
    have hqb:q≤10000011:=by omega
    by_cases h8:q%8=0
    · have d1:(((q:Int)%8) !=0)=false:=by rw[bne_eq_false_iff_eq];omega
      have d1':((q:Int).tmod 8 !=0)=false:=by rw[Int.tmod_eq_emod_of_nonneg (by omega),bne_eq_false_iff_eq];omega
      have hip:i=pd (bs.length+3):=by rw[←hi,←hq2,pd_zero h8];rfl
      have HIp:=hid hip;have HP16:=hid (show Calls Tryz.prog 60 #[.pointer (some ⟨P,0,none⟩),.int .i64 m,.int .i64 16] wr fun e w'=>e=.returned (.tuple #[])∧∃v',Bw B w' P v' (bs++hdb 0 lb++List.replicate i 0++put m 16)∧Chg P (Value.slice A2 q c2).ownBlock wr v'.ownBlock w' from put_any hb2 m 16 (by omega) (by omega) (by rw[hq];omega) (Nat.le_trans HBw.out hc2.size));have HP17:=hid (show ∀ (v3:Value) (w3:World),Bw B w3 P v3 (bs++hdb 0 lb++List.replicate i 0++put m 16)→w.heap.size≤w3.heap.size→Calls Tryz.prog 60 #[.pointer (some ⟨P,0,none⟩),.int .i64 mc,.int .i64 16] w3 fun e w'=>e=.returned (.tuple #[])∧∃v',Bw B w' P v' (bs++hdb 0 lb++List.replicate i 0++put m 16++put mc 16)∧Chg P v3.ownBlock w3 v'.ownBlock w' from fun v3 w3 h3 hs3=>put_any h3 mc 16 (by omega) (by omega) (by rw[List.length_append,hq,put_length];omega) (Nat.le_trans HBw.out hs3));have HQ:=hid hq;clear hb2 hc2 hsl hi h8 hip hq2 hq
      go_wp2_with (first
       |(go_at_call 60;(with_reducible refine HP16.out.mono ?_);rintro e w3 ⟨rfl,v3,b3,c3⟩;have HB3:=hid b3;have HC3:=hid (HC2.out.trans c3);clear b3 c3)
       |(go_at_call 60;(with_reducible refine(HP17.out v3 w3 HB3.out HC3.out.size).mono ?_);rintro e w4 ⟨rfl,v4,b4,c4⟩;have HB4:=hid b4;have HC4:=hid (HC3.out.trans c4);clear b4 c4))
      go_loopw [7] (fun x wr=> ∃ (j:Nat) (v5:Value),j≤m∧x=.int .i64 j∧Bw B wr P v5 (bs++hdb 0 lb++List.replicate i 0++put m 16++put mc 16++byb r j)∧Chg P v.ownBlock w v5.ownBlock wr) (fun x _=>m - (intOf x).toNat)
      case atStart=>exact⟨0,v4,Nat.zero_le _,rfl,by simpa [byb] using HB4.out,HC4.out⟩
      case round=>
       obtain⟨j,v5,hj,rfl,hb5,hc5⟩:=hrel;have HB5:=hid hb5;have HC5:=hid hc5;by_cases hjm:j<m
       · have d2:decide ((j:Int)<(m:Int))=true:=decide_eq_true (by omega)
         have d2':decide (j<m)=true:=decide_eq_true hjm;have hjr:j<r.size:=by rw[HR.out];exact Nat.lt_of_lt_of_le hjm HMr.out
         have hx:=bty_lt r j;have HX:=hid (bty_eq hjr);have hw8:wrap64 ((r[j]'hjr).toNat:Int)=((r[j]'hjr).toNat:Int):=by rw[HX.out];exact IntWalk.wrap64_in _ ⟨by omega,by omega⟩
         have hpp:Calls Tryz.prog 60 #[.pointer (some ⟨P,0,none⟩),.int .i64 (wrap64 ((r[j]'hjr).toNat:Int)),.int .i64 8] wr fun e w'=>e=.returned (.tuple #[])∧∃v',Bw B w' P v' (bs++hdb 0 lb++List.replicate i 0++put m 16++put mc 16++byb r j++put (r[j]'hjr).toNat 8)∧Chg P v5.ownBlock wr v'.ownBlock w':=by rw[hw8];exact put_any hb5 _ 8 (by rw[HX.out];omega) (by omega) (by rw[List.length_append,List.length_append,List.length_append,HQ.out,put_length,put_length,byb_length];omega) (Nat.le_trans HBw.out hc5.size)
         have HP8:=hid hpp;clear hb5 hc5 hpp hx hw8;go_wp2_with (go_at_call 60;(with_reducible refine HP8.out.mono ?_);rintro e w6 ⟨rfl,v6,b6,c6⟩;have HB6:=hid b6;have HC6:=hid (HC5.out.trans c6);clear b6 c6);go_roundw
         case rel=>exact⟨j+1,v6,by omega,by go_num,by rw[byb_succ,←HX.out,←List.append_assoc];exact HB6.out,HC6.out⟩
         case measure=>(simp[intOf];try omega)
       · obtain rfl:j=m:=by omega
         have d2:decide ((j:Int)<(j:Int))=false:=decide_eq_false (by omega);have d2':decide (j<j)=false:=decide_eq_false (by omega);have hjr:j≤r.size:=by rw[HR.out];exact HMr.out
         have HB5':=hid (show Bw B wr P v5 (bs++rnb bs.length r j lb) by rw[HRn.out,←HIp.out];have:=HB5.out;simp only[List.append_assoc] at this ⊢;exact this);clear hb5 hc5;by_cases hRe:R≤65535
         · obtain⟨f1,f2⟩:=HEnd.out hRe
           rw[f2] at HB5';clear hRe f2;go_wp2_with fail;refine bodyPost_ret (results_none rfl _ _ _) rfl ?_
           exact⟨rfl,v5,HB5'.out,HC5.out⟩
         · obtain⟨f1,f2,f3,f4⟩:=HMore.out hRe
           have F2:=hid f2;have F3:=hid f3;have F4:=hid f4;clear hRe f2 f3 f4;go_wp2_with fail;go_roundw
           case rel=>exact⟨E,bs++rnb bs.length r j lb,v5,rfl,F2.out,F3.out,HB5'.out,HC5.out⟩
           case measure=>(show vsz (.string E)<vsz (.string r);have:=F4.out;have:=HR.out;simp only[vsz];omega)
    · have d1:(((q:Int)%8) !=0)=true:=by rw[bne_iff_ne];omega
      have d1':((q:Int).tmod 8 !=0)=true:=by rw[Int.tmod_eq_emod_of_nonneg (by omega),bne_iff_ne];omega
      have hps:=pd_step h8;have HPs:=hid hps;have HI:=hid (show i+1+pd (bs.length+3+(i+1))=pd (bs.length+3) from by rw[←hi,←hq2,hps,hq2];rw[show bs.length+3+(i+1)=bs.length+3+i+1 by omega];omega);have HP0:=hid (show Calls Tryz.prog 60 #[.pointer (some ⟨P,0,none⟩),.int .i64 0,.int .i64 1] wr fun e w'=>e=.returned (.tuple #[])∧∃v',Bw B w' P v' (bs++hdb 0 lb++List.replicate i 0++put 0 1)∧Chg P (Value.slice A2 q c2).ownBlock wr v'.ownBlock w' from put_any hb2 0 1 (by omega) (by omega) (by rw[hq];omega) (Nat.le_trans HBw.out hc2.size));clear hb2 hc2 hsl hi h8 hps hq2;go_wp2_with (go_at_call 60;(with_reducible refine HP0.out.mono ?_);rintro e w3 ⟨rfl,v3,b3,c3⟩;have HB3:=hid b3;have HC3:=hid (HC2.out.trans c3);clear b3 c3);go_roundw
      case rel=>exact⟨i+1,v3,HI.out,by have:=HB3.out;rw[show put 0 1=[0] from rfl] at this;rw[List.replicate_succ',←List.append_assoc];exact this,HC3.out⟩
      case measure=>
       have h3:=HB3.out.sln;rw[List.length_append,hq,put_length] at h3;rw[h3,HSl.out,HPs.out];exact Nat.lt_succ_self _
end Go.Proofs.YtdpabanajgegjaaGreatDoor.V
namespace Go.Proofs.YtdpabanajgegjaaGreatDoor.V
open Go Go.RowKit M U
open Go.ChangeShapes Go.WideShapes Go.Deep
structure Tk where
 l:Int
 n:Int
 d:Int
deriving DecidableEq
instance:Inhabited Tk:=⟨⟨0,0,0⟩⟩
structure Tk.ok(t:Tk):Prop where
 l:0≤t.l∧t.l≤255
 n: -9223372036854775808≤t.n∧t.n≤9223372036854775807
 d: -9223372036854775808≤t.d∧t.d≤9223372036854775807
def isB(t:Tk):Bool:=decide (t.n=0)&&decide (t.d=0)
def isM(t:Tk):Bool:=decide (t.l=0)&& (decide (3≤t.n)&& (decide (t.n≤258)&& (decide (1≤t.d)&&decide (t.d≤32768))))
def may(t:Tk):Bool:=isB t||isM t
theorem isB_iff{t:Tk}:isB t=true↔t.n=0∧t.d=0:=by unfold isB;simp
theorem isM_iff{t:Tk}:isM t=true↔t.l=0∧3≤t.n∧t.n≤258∧1≤t.d∧t.d≤32768:=by unfold isM;simp
theorem isB_no{t:Tk}(h:isM t=true):isB t=false:=by
 have:=isM_iff.1 h;cases q:isB t
 · rfl
 · have:=isB_iff.1 q;omega
structure Tk.lies(w:World)(b o i:Nat)(c:Tk):Prop where
 l:w.cell? ⟨b,o+i*3,none⟩=some (.int .u8 c.l)
 n:w.cell? ⟨b,o+i*3+1,none⟩=some (.int .i64 c.n)
 d:w.cell? ⟨b,o+i*3+2,none⟩=some (.int .i64 c.d)
structure IsTks(w:World)(ao:Option Addr)(len:Nat)(cs:List Tk):Prop where
 leng:cs.length=len
 most:len≤maxLen
 good:∀c∈cs,c.ok
 cells:len=0∨∃b o,ao=some ⟨b,o,none⟩∧b<w.heap.size∧∀ (i:Nat) (c:Tk),cs[i]? =some c→c.lies w b o i
theorem IsTks.below{w w':World}{ao:Option Addr}{len:Nat}{cs:List Tk}(h:IsTks w ao len cs)(hb:Below w.heap.size w w'):IsTks w' ao len cs:=by
 refine⟨h.leng,h.most,h.good,?_⟩;rcases h.cells with g|⟨b,o,g1,g2,g3⟩
 · exact .inl g
 · refine .inr ⟨b,o,g1,Nat.lt_of_lt_of_le g2 hb.size,fun i c hc=> ?_⟩
   have k:=g3 i c hc;exact⟨(hb.cell g2).trans k.l,(hb.cell g2).trans k.n,(hb.cell g2).trans k.d⟩
theorem cadd_at(b o j:Nat):(⟨b,o,none⟩:Addr).add j=⟨b,o+j,none⟩:=by
 unfold Addr.add
 split
 · rename_i h;subst h;rfl
 · rfl
section
variable {H:Type} {enc:TypeId×Value→H} {w:World} {spare:Nat→Bool} {held:Bool}
end
theorem rmay_any(l n d:Int)(w:World):
 Calls Tryz.prog 64 #[.agg #[.int .u8 l,.int .i64 n,.int .i64 d]] w fun e w'=>e=.returned (.bool (may ⟨l,n,d⟩))∧Below w.heap.size w w':=by
 by_cases h0:n=0
 · have hv:∀b,decide (d=0)=b→may ⟨l,n,d⟩=b:=fun b h=>by
    have hm:isM ⟨l,n,d⟩=false:=by cases q:isM ⟨l,n,d⟩ with|false=>rfl|true=>(have:=isM_iff.1 q;simp only at this;omega)
    unfold may;rw[hm,Bool.or_false];unfold isB;simp only;rw[decide_eq_true h0,h];rfl
   have e0:(n==0)=true:=by rw[beq_iff_eq];exact h0
   by_cases h1:d=0
   · rw[hv true (decide_eq_true h1)]
     have e1:(d==0)=true:=by rw[beq_iff_eq];exact h1
     clear h0 h1 hv;go_enter Tryz.func64,Tryz.ntmps64;go_wp2;go_ret;exact⟨rfl,(Below.refl _ _).alloc (Nat.le_refl _) _⟩
   · rw[hv false (decide_eq_false h1)]
     have e1:(d==0)=false:=by rw[beq_eq_false_iff_ne];exact h1
     clear h0 h1 hv;go_enter Tryz.func64,Tryz.ntmps64;go_wp2;go_ret;exact⟨rfl,(Below.refl _ _).alloc (Nat.le_refl _) _⟩
 have hv:∀b,(decide (l=0)&& (decide (3≤n)&& (decide (n≤258)&& (decide (1≤d)&&decide (d≤32768)))))=b→may ⟨l,n,d⟩=b:=fun b h=>by
  have hb:isB ⟨l,n,d⟩=false:=by cases q:isB ⟨l,n,d⟩ with|false=>rfl|true=>exact absurd (isB_iff.1 q).1 h0
  unfold may;rw[hb,Bool.false_or];exact h
 have e0:(n==0)=false:=by rw[beq_eq_false_iff_ne];exact h0
 by_cases h2:3≤n
 · have d2:decide (3≤n)=true:=decide_eq_true h2
   by_cases h3:n≤258
   · have d3:decide (n≤258)=true:=decide_eq_true h3
     by_cases h4:1≤d
     · have d4:decide (1≤d)=true:=decide_eq_true h4
       by_cases h5:d≤32768
       · have d5:decide (d≤32768)=true:=decide_eq_true h5
         by_cases h6:l=0
         · have d6:(l==0)=true:=by rw[beq_iff_eq];exact h6
           rw[hv true (by simp[h2,h3,h4,h5,h6])];clear h0 h2 h3 h4 h5 h6 hv;go_enter Tryz.func64,Tryz.ntmps64;go_wp2;go_ret;exact⟨rfl,(Below.refl _ _).alloc (Nat.le_refl _) _⟩
         · have d6:(l==0)=false:=by rw[beq_eq_false_iff_ne];exact h6
           rw[hv false (by simp[h6])];clear h0 h2 h3 h4 h5 h6 hv;go_enter Tryz.func64,Tryz.ntmps64;go_wp2;go_ret;exact⟨rfl,(Below.refl _ _).alloc (Nat.le_refl _) _⟩
       · have d5:decide (d≤32768)=false:=decide_eq_false h5
         rw[hv false (by simp[h5])];clear h0 h2 h3 h4 h5 hv;go_enter Tryz.func64,Tryz.ntmps64;go_wp2;go_ret;exact⟨rfl,(Below.refl _ _).alloc (Nat.le_refl _) _⟩
     · have d4:decide (1≤d)=false:=decide_eq_false h4
       rw[hv false (by simp[h4])];clear h0 h2 h3 h4 hv;go_enter Tryz.func64,Tryz.ntmps64;go_wp2;go_ret;exact⟨rfl,(Below.refl _ _).alloc (Nat.le_refl _) _⟩
   · have d3:decide (n≤258)=false:=decide_eq_false h3
     rw[hv false (by simp[h3])];clear h0 h2 h3 hv;go_enter Tryz.func64,Tryz.ntmps64;go_wp2;go_ret;exact⟨rfl,(Below.refl _ _).alloc (Nat.le_refl _) _⟩
 · have d2:decide (3≤n)=false:=decide_eq_false h2
   rw[hv false (by simp[h2])];clear h0 h2 hv;go_enter Tryz.func64,Tryz.ntmps64;go_wp2;go_ret;exact⟨rfl,(Below.refl _ _).alloc (Nat.le_refl _) _⟩
theorem IsTks.at{w:World}{A:Option Addr}{n:Nat}{L:List Tk}(h:IsTks w A n L)(hn:0<n):∃b o,A=some ⟨b,o,none⟩∧b<w.heap.size∧∀i (hi:i<n),w.cell? ⟨b,o+i*3,none⟩=some (.int .u8 (L.getD i default).l)∧w.cell? ⟨b,o+i*3+1,none⟩=some (.int .i64 (L.getD i default).n)∧w.cell? ⟨b,o+i*3+2,none⟩=some (.int .i64 (L.getD i default).d):=by
 rcases h.cells with g|⟨b,o,g1,g2,g3⟩
 · omega
 · refine⟨b,o,g1,g2,fun i hi=> ?_⟩
   have hl:=h.leng;have e:L[i]? =some (L.getD i default):=by rw[List.getD,List.getElem?_eq_getElem (by omega)];rfl
   have k:=g3 i _ e;exact⟨k.l,k.n,k.d⟩
theorem getD_take_succ(L:List Tk)(i:Nat)(hi:i<L.length):L.take (i+1)=L.take i++[L.getD i default]:=by
 rw[List.take_add_one,List.getD,List.getElem?_eq_getElem hi];rfl
structure Sy where
 d:Bool
 n:Nat
 e:Nat
 b:Nat
deriving DecidableEq
instance:Inhabited Sy:=⟨⟨false,0,0,0⟩⟩
def sy1(t:Tk):List Sy:=if t.n=0 then[⟨false,t.l.toNat,0,0⟩] else[⟨false,257+lsy t.n.toNat,lex t.n.toNat,lb (lsy t.n.toNat)⟩,⟨true,dsy t.d.toNat,dex t.d.toNat,db (dsy t.d.toNat)⟩]
def sys(L:List Tk):List Sy:=L.flatMap sy1++[⟨false,256,0,0⟩]
theorem sy1_len(t:Tk):(sy1 t).length≤2:=by unfold sy1;split<;>simp
theorem fsy_len:∀L:List Tk,(L.flatMap sy1).length≤2*L.length
 |[]=>by simp
 |t::L=>by rw[List.flatMap_cons,List.length_append,List.length_cons];have:=fsy_len L;have:=sy1_len t;omega
theorem fsy_succ(L:List Tk)(k:Nat)(hk:k<L.length):(L.take (k+1)).flatMap sy1=(L.take k).flatMap sy1++sy1 (L.getD k default):=by
 rw[getD_take_succ L k hk,List.flatMap_append];simp
def cly:List Sy→List Value
 |[]=> []
 |t::l=> .bool t.d::.int .i64 (t.n:Int)::.int .i64 (t.e:Int)::.int .i64 (t.b:Int)::cly l
theorem cly_append:∀l r,cly (l++r)=cly l++cly r
 |[],_=>rfl
 |t::l,r=>by simp only[List.cons_append,cly];rw[cly_append l r]
theorem cly_at:∀ (l:List Sy) (i:Nat) (t:Sy),l[i]? =some t→(cly l)[i*4]? =some (.bool t.d)∧(cly l)[i*4+1]? =some (.int .i64 (t.n:Int))∧(cly l)[i*4+2]? =some (.int .i64 (t.e:Int))∧(cly l)[i*4+3]? =some (.int .i64 (t.b:Int))
 |[],i,t,h=>by simp at h
 |a::l,0,t,h=>by simp at h;subst h;simp[cly]
 |a::l,i+1,t,h=>by
  rw[List.getElem?_cons_succ] at h;obtain⟨h1,h2,h3,h4⟩:=cly_at l i t h;simp only[cly];refine⟨?_,?_,?_,?_⟩
  · rw[show(i+1)*4=i*4+1+1+1+1 by omega];simpa using h1
  · rw[show(i+1)*4+1=i*4+1+1+1+1+1 by omega];simpa using h2
  · rw[show(i+1)*4+2=i*4+2+1+1+1+1 by omega];simpa using h3
  · rw[show(i+1)*4+3=i*4+3+1+1+1+1 by omega];simpa using h4
theorem cly_one:∀ (l:List Sy),∀u∈cly l,u.oneCell'=true
 |[],u,h=>by simp[cly] at h
 |t::l,u,h=>by
  simp only[cly,List.mem_cons] at h;rcases h with rfl|rfl|rfl|rfl|h
  · rfl
  · rfl
  · rfl
  · rfl
  · exact cly_one l u h
structure IsSys(w:World)(A:Option Addr)(n:Nat)(L:List Sy):Prop where
 leng:L.length=n
 cells:n=0∨∃b o,A=some ⟨b,o,none⟩∧b<w.heap.size∧∀ (i:Nat) (r:Sy),L[i]? =some r→w.cell? ⟨b,o+i*4,none⟩=some (.bool r.d)∧w.cell? ⟨b,o+i*4+1,none⟩=some (.int .i64 (r.n:Int))∧w.cell? ⟨b,o+i*4+2,none⟩=some (.int .i64 (r.e:Int))∧w.cell? ⟨b,o+i*4+3,none⟩=some (.int .i64 (r.b:Int))
theorem IsSys.at{w:World}{A:Option Addr}{n:Nat}{L:List Sy}(h:IsSys w A n L)(hn:0<n):∃b o,A=some ⟨b,o,none⟩∧b<w.heap.size∧∀i,i<n→w.cell? ⟨b,o+i*4,none⟩=some (.bool (L.getD i default).d)∧w.cell? ⟨b,o+i*4+1,none⟩=some (.int .i64 ((L.getD i default).n:Nat))∧w.cell? ⟨b,o+i*4+2,none⟩=some (.int .i64 ((L.getD i default).e:Nat))∧w.cell? ⟨b,o+i*4+3,none⟩=some (.int .i64 ((L.getD i default).b:Nat)):=by
 rcases h.cells with g|⟨b,o,g1,g2,g3⟩
 · omega
 · exact⟨b,o,g1,g2,fun i hi=>g3 i _ (by rw[List.getD,List.getElem?_eq_getElem (by rw[h.leng];exact hi)];rfl)⟩
theorem symInfo:(Tryz.prog.info? 122).map (fun i=>(i.zero,i.size,i.bytes))=some (some (.agg #[.bool false,.int .i64 0,.int .i64 0,.int .i64 0]),4,32):=by kernel_rfl
def Owy(B:Nat)(w:World)(v:Value)(L:List Sy):Prop:=w.ownsRow B 122 4 v L.length (cly L)
section
variable {B:Nat} {w w':World} {v:Value} {L:List Sy}
theorem Owy.nil(B:Nat)(w:World):Owy B w (.slice none 0 0) []:=World.ownsRow_nil w B _ 4
theorem Owy.alloc(h:Owy B w v L)(o:Obj):Owy B (w.alloc o) v L:=World.ownsRow.alloc h o
theorem Owy.at(h:Owy B w v L)(e:∀g,v.ownBlock=some g→w'.heap[g]? =w.heap[g]?):Owy B w' v L:=ownsRow_at h e
theorem Owy.lt(h:Owy B w v L):∀g,v.ownBlock=some g→B≤g∧g<w.heap.size:=World.ownsRow.lt h
theorem Owy.below(h:Owy B w v L)(hb:Below w.heap.size w w'):Owy B w' v L:=h.at fun g hg=>hb.block g (h.lt g hg).2
theorem Owy.sys(h:Owy B w v L):∃A c,v=.slice A L.length c∧IsSys w A L.length L:=by
 rcases h.2 with⟨rfl,h0⟩|⟨g,cap,cur,rfl,_,hh,_⟩
 · exact⟨none,0,by rw[h0],rfl,.inl h0⟩
 · refine⟨_,cap,rfl,rfl,.inr ⟨g,0,rfl,(Array.getElem?_eq_some_iff.1 hh).1,fun i t ht=> ?_⟩⟩
   obtain⟨h1,h2,h3,h4⟩:=cly_at L i t ht;have k:=fun j u hu=>h.cells (g:=g) rfl j u hu
   simp only[nadd_at] at k;exact⟨k _ _ h1,k _ _ h2,k _ _ h3,k _ _ h4⟩
end
theorem wpList_ay{ops:Array Oper}{rest:List Oper}{o:Oper}{a:Act}{w:World}{Q:Exit→Act→World→Prop}(hgd:o.guard=none)(s x:Operand)
 (ho:o.op=.call {callee:=.builtin .append,args:= #[s,x],argTypes:= #[119,119]}) (B:Nat) (v:Value) (L:List Sy) (hs:a.eval s=v) (h:Owy B w v L) (b c:Nat) (y:Sy)
 (hx:a.eval x=.slice (some ⟨b,0,none⟩) 1 c) (hc:w.cell? ⟨b,0,none⟩=some (.bool y.d)∧w.cell? ⟨b,1,none⟩=some (.int .i64 (y.n:Int))∧w.cell? ⟨b,2,none⟩=some (.int .i64 (y.e:Int))∧w.cell? ⟨b,3,none⟩=some (.int .i64 (y.b:Int))) (hL:L.length≤3000000) (hB:B≤w.heap.size)
 (hK:∀v' w',Owy B w' v' (L++[y])→w.grownBy w' v.ownBlock→Below B w w'→wpList Tryz.prog ops Q rest (a.put o.dst v') w'):wpList Tryz.prog ops Q (o::rest) a w:=
 wpList_plain hgd fun K hK'=>by
  obtain⟨i,h1,h2,h3,h4⟩:=info_of symInfo
  obtain⟨v',w',r1,r2,r3,_⟩:=run_append_own (P:= Tryz.prog) w B 119 o.type 122 i _ 4 32 Tryz.underlying119 h1 h2 h3 h4 rfl (by decide) v L.length (cly L) h ⟨b,0,none⟩ 1 c (cly [y]) rfl
   (fun j u hu=>by
    rw[nadd_at,Nat.zero_add]
    match j,hu with
    |0,hu=>simp[cly] at hu;subst hu;exact hc.1
    |1,hu=>simp[cly] at hu;subst hu;exact hc.2.1
    |2,hu=>simp[cly] at hu;subst hu;exact hc.2.2.1
    |3,hu=>simp[cly] at hu;subst hu;exact hc.2.2.2
    |j+4,hu=>simp[cly] at hu) (cly_one _) (by unfold maxLen;omega) (by omega) hB
  unfold Oper.wp execOp;simp only[ho,resolve,invoke,builtin,Sem.run_bind,Sem.run_pure,Result.andThen_ok,List.map_toArray,List.map_cons,List.map_nil,hs,hx,r1];refine hK' _ _ (hK v' w' ?_ r3 ((Below.refl _ w).grown r3 hB (fun k hk=>(World.ownsRow.lt h k hk).1)));unfold Owy;rw[List.length_append,cly_append];exact r2
end Go.Proofs.YtdpabanajgegjaaGreatDoor.V
namespace Go.Proofs.YtdpabanajgegjaaGreatDoor.V
open Go.Lib (hid)
open Go Go.RowKit M U
set_option maxRecDepth 1000000 in
set_option maxHeartbeats 2000000 in
theorem syms_any(A:Option Addr)(n c:Nat)(L:List Tk)(w:World)(h:IsTks w A n L)(hn:n≤100000)(hm:∀t∈L,may t=true):
 Calls Tryz.prog 62 #[.slice A n c] w fun e w'=> ∃v,e=.returned v∧Owy w.heap.size w' v (sys L)∧Below w.heap.size w w':=by
 have HH:=hid h;have HM:=hid hm;have hl:=h.leng;have HL:=hid hl;clear h hm hl;go_enter Tryz.func62,Tryz.ntmps62;go_wp2_with fail
 go_loopw [3,4] (fun v x wr=> ∃k:Nat,k≤n∧x=.int .i64 k∧Owy w.heap.size wr v ((L.take k).flatMap sy1)∧Below w.heap.size w wr) (fun _ x _=>n - (intOf x).toNat)
 case atStart=>exact⟨0,Nat.zero_le _,rfl,Owy.nil _ _,Below.refl _ _⟩
 case round=>
  obtain⟨k,hk,rfl,hO,hb⟩:=hrel;have HO:=hid hO;have HB:=hid hb;have hfl:=fsy_len (L.take k);rw[List.length_take] at hfl;have hF:((L.take k).flatMap sy1).length≤200000:=by omega
  by_cases hlt:k<n
  · have d1:decide ((k:Int)<(n:Int))=true:=decide_eq_true (by omega)
    have d1':decide (k<n)=true:=decide_eq_true hlt;obtain⟨b,o,rfl,hbl,hc⟩:=(HH.out.below hb).at (by omega);obtain⟨c0,c1,c2⟩:=hc k hlt;have hkL:k<L.length:=by rw[HL.out];exact hlt
    have hs:=fsy_succ L k hkL;have hmem:L.getD k default∈L:=by rw[List.getD,List.getElem?_eq_getElem hkL];exact List.getElem_mem _
    have hmt:=HM.out _ hmem;have hok:=HH.out.good _ hmem;obtain⟨t,ht⟩:∃t,L.getD k default=t:=⟨_,rfl⟩
    rw[ht] at c0 c1 c2 hs hmt hok;obtain⟨tl,tn,td⟩:=t;have hokl:=hok.l;simp only at c0 c1 c2 hokl;have hk2:k≤100000:=by omega
    by_cases h0:tn=0
    · subst h0
      obtain⟨x,rfl⟩:∃x:Nat,tl=(x:Int):=⟨tl.toNat,by omega⟩
      have hx:x≤255:=by omega
      have hwx:wrap64 (x:Int)=(x:Int):=IntWalk.wrap64_in _ ⟨by omega,by omega⟩;have hs2:(L.take (k+1)).flatMap sy1=(L.take k).flatMap sy1++[⟨false,x,0,0⟩]:=by rw[hs];rfl
      have HS:=hid hs2;clear hs hs2 hmt hok hokl ht hmem hkL hc hO hb hfl;go_wp2_with (at_builtin;refine wpList_ay rfl (.tmp 21) (.tmp 29) rfl w.heap.size _ _ rfl (HO.out.alloc _) wr.heap.size 1 ⟨false,x,0,0⟩ rfl ⟨by simp,by simp,by simp,by simp⟩ (by omega) (by have:=HB.out.size;simp;omega) ?_;intro v4 w4 o4 g4 b4;have O4:=hid o4;have B4:=hid ((HB.out.alloc HB.out.size _).trans b4);clear o4 g4 b4);go_roundw
      case rel=>exact⟨k+1,by omega,by go_num,by rw[HS.out];exact O4.out,B4.out⟩
      case measure=>(simp[intOf];try omega)
    · have hM:isM ⟨tl,tn,td⟩=true:=by
       unfold may at hmt;rw[Bool.or_eq_true] at hmt;rcases hmt with q|q
       · exact absurd (isB_iff.1 q).1 h0
       · exact q
      have hM2:=isM_iff.1 hM;simp only at hM2;obtain⟨rfl,m1,m2,m3,m4⟩:=hM2;have e0:(tn==0)=false:=by rw[beq_eq_false_iff_ne];exact h0
      obtain⟨y,rfl⟩:∃y:Nat,tn=(y:Int):=⟨tn.toNat,by omega⟩
      obtain⟨z,rfl⟩:∃z:Nat,td=(z:Int):=⟨td.toNat,by omega⟩
      have hL0:=fun W=>rlen_yes y W (by omega)
      have hD0:=fun W=>rdist_yes z W (by omega)
      have i1:=(len_in (n:=y) (by omega)).1;have i2:=(dist_in (n:=z) (by omega)).1
      have hs2:(L.take (k+1)).flatMap sy1=(L.take k).flatMap sy1++[⟨false,257+lsy y,lex y,lb (lsy y)⟩]++[⟨true,dsy z,dex z,db (dsy z)⟩]:=by
       rw[hs];unfold sy1;rw[if_neg h0,List.append_assoc];rfl
      obtain⟨a1,ha1⟩:∃a,lsy y=a:=⟨_,rfl⟩
      obtain⟨a2,ha2⟩:∃a,dsy z=a:=⟨_,rfl⟩
      obtain⟨e1,he1⟩:∃a,lex y=a:=⟨_,rfl⟩
      obtain⟨e2,he2⟩:∃a,dex z=a:=⟨_,rfl⟩
      rw[ha1] at hL0 i1 hs2;rw[ha2] at hD0 i2 hs2;rw[he1] at hL0 hs2;rw[he2] at hD0 hs2;have hb1:=fun W=>rlb_yes a1 W i1
      have hb2:=fun W=>rdb_yes a2 W i2
      obtain⟨q1,hq1⟩:∃a,lb a1=a:=⟨_,rfl⟩
      obtain⟨q2,hq2⟩:∃a,db a2=a:=⟨_,rfl⟩
      rw[hq1] at hb1 hs2;rw[hq2] at hb2 hs2;have HL0:=hid hL0;have HD0:=hid hD0;have HB1:=hid hb1;have HB2:=hid hb2;have HS:=hid hs2;clear hs hs2 hmt hok hokl ht hmem hkL hc hO hb hfl hL0 hD0 hb1 hb2 ha1 ha2 he1 he2 hq1 hq2 hM h0 m1 m2 m3 m4
      go_wp2_with (first
       |(go_at_call 98;refine(HL0.out _).mono ?_;rintro e w1 ⟨rfl,b1⟩;have k2:=(b1.cell (p:=⟨b,o+k*3+2,none⟩) hbl).trans c2;have O1:=hid (HO.out.below b1);have B1:=hid (HB.out.trans (b1.mono HB.out.size));clear b1)
       |(go_at_call 99;refine(HD0.out _).mono ?_;rintro e w2 ⟨rfl,b2⟩;have O2:=hid (O1.out.below b2);have B2:=hid (B1.out.trans (b2.mono B1.out.size));clear b2)
       |(go_at_call 100;refine(HB1.out _).mono ?_;rintro e _ ⟨rfl,rfl⟩)
       |(go_at_call 101;refine(HB2.out _).mono ?_;rintro e _ ⟨rfl,rfl⟩)
       |(at_builtin;refine wpList_ay rfl (.tmp 49) (.tmp 55) rfl w.heap.size _ _ rfl (O2.out.alloc _) w2.heap.size 1 ⟨false,257+a1,e1,q1⟩ rfl ⟨by simp,by simp,by simp,by simp⟩ (by omega) (by have:=B2.out.size;simp;omega) ?_;intro v4 w4 o4 g4 b4;have O4:=hid o4;have B4:=hid ((B2.out.alloc B2.out.size _).trans b4);clear o4 g4 b4)
       |(at_builtin;refine wpList_ay rfl (.tmp 57) (.tmp 63) rfl w.heap.size v4 _ rfl (O4.out.alloc _) w4.heap.size 1 ⟨true,a2,e2,q2⟩ rfl ⟨by simp,by simp,by simp,by simp⟩ (by rw[List.length_append,List.length_singleton];omega) (by have:=B4.out.size;simp;omega) ?_;intro v5 w5 o5 g5 b5;have O5:=hid o5;have B5:=hid ((B4.out.alloc B4.out.size _).trans b5);clear o5 g5 b5))
      go_roundw
      case rel=>exact⟨k+1,by omega,by go_num,by rw[HS.out];exact O5.out,B5.out⟩
      case measure=>(simp[intOf];try omega)
  · obtain rfl:k=n:=by omega
    have d1:decide ((k:Int)<(k:Int))=false:=decide_eq_false (by omega);have d1':decide (k<k)=false:=decide_eq_false (by omega);have hE:L.take k=L:=List.take_of_length_le (by rw[HL.out];exact Nat.le_refl _);have HE:=hid hE;clear hE hb hO hfl;go_wp2_with (at_builtin;refine wpList_ay rfl (.tmp 65) (.tmp 67) rfl w.heap.size _ _ rfl (HO.out.alloc _) wr.heap.size 1 ⟨false,256,0,0⟩ rfl ⟨by simp,by simp,by simp,by simp⟩ (by omega) (by have:=HB.out.size;simp;omega) ?_;intro v4 w4 o4 g4 b4;have O4:=hid o4;have B4:=hid ((HB.out.alloc HB.out.size _).trans b4);clear o4 g4 b4);go_ret;exact⟨v4,rfl,by have:=O4.out;rw[HE.out] at this;exact this,B4.out⟩
end Go.Proofs.YtdpabanajgegjaaGreatDoor.V
namespace Go.Proofs.YtdpabanajgegjaaGreatDoor.V
open Go Go.RowKit M U
def ord:List Nat:=[16,17,18,0,8,7,9,6,10,5,11,4,12,3,13,2,14,1,15]
theorem ord_cells(w:World)(g:Nat)(h:w.heap[g]? =some (.cells #[.int .u8 16,.int .u8 17,.int .u8 18,.int .u8 0,.int .u8 8,.int .u8 7,.int .u8 9,.int .u8 6,.int .u8 10,.int .u8 5,.int .u8 11,.int .u8 4,.int .u8 12,.int .u8 3,.int .u8 13,.int .u8 2,.int .u8 14,.int .u8 1,.int .u8 15] 5)):IsBys w (some ⟨g,0,none⟩) 19 ord:=by
 have e:(#[.int .u8 16,.int .u8 17,.int .u8 18,.int .u8 0,.int .u8 8,.int .u8 7,.int .u8 9,.int .u8 6,.int .u8 10,.int .u8 5,.int .u8 11,.int .u8 4,.int .u8 12,.int .u8 3,.int .u8 13,.int .u8 2,.int .u8 14,.int .u8 1,.int .u8 15]:Array Value)=(clb ord).toArray:=rfl;rw[e] at h;refine⟨rfl,by decide,by decide,.inr ⟨g,0,rfl,(Array.getElem?_eq_some_iff.1 h).1,fun i x hx=> ?_⟩⟩;rw[Nat.zero_add];simp only[World.cell?,h];unfold clb;rw[List.getElem?_toArray,List.getElem?_map,hx];rfl
set_option maxRecDepth 1000000 in
theorem order_any(w:World):Calls Tryz.prog 68 #[] w fun e w'=>e=.returned (.slice (some ⟨w.heap.size,0,none⟩) 19 19)∧IsBys w' (some ⟨w.heap.size,0,none⟩) 19 ord∧Below w.heap.size w w':=by
 go_enter Tryz.func68,Tryz.ntmps68;go_wp2;go_ret;exact⟨rfl,ord_cells _ _ (heap_alloc_new _ _),(Below.refl _ _).alloc (Nat.le_refl _) _⟩
end Go.Proofs.YtdpabanajgegjaaGreatDoor.V
namespace Go.Proofs.YtdpabanajgegjaaGreatDoor.V.Tx
def szo(t:Tk):Nat:=if isB t=true then 1 else if isM t=true then t.n.toNat else 0
def szs:List Tk→Nat
 |[]=>0
 |t::l=>szo t+szs l
theorem szs_append:∀ (l m:List Tk),szs (l++m)=szs l+szs m
 |[],m=>by simp[szs]
 |t::l,m=>by simp only[List.cons_append,szs,szs_append l m];omega
theorem szo_le(t:Tk):szo t≤258:=by
 unfold szo
 split
 · omega
 · split
   · rename_i h;have:=isM_iff.1 h;omega
   · omega
theorem szo_byte{t:Tk}(h:isB t=true):szo t=1:=by unfold szo;rw[if_pos h]
theorem szo_match{t:Tk}(h:isM t=true):szo t=t.n.toNat:=by unfold szo;rw[isB_no h,if_neg (by decide),if_pos h]
theorem szs_le:∀l:List Tk,szs l≤258*l.length
 |[]=>by simp[szs]
 |t::l=>by have:=szs_le l;have:=szo_le t;simp only[szs,List.length_cons];omega
section
variable {d0:Nat} {b:List UInt8} {t:Tk}
end
end Go.Proofs.YtdpabanajgegjaaGreatDoor.V.Tx
