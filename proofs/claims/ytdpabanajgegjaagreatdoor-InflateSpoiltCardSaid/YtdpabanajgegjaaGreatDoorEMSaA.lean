/- Texts of one place, one behind the other: SaA, SaT. -/
import Derived.Test.YtdpabanajgegjaaGreatDoorEMRns
import Derived.Test.YtdpabanajgegjaaGreatDoorRows
import Derived.OpenShut
import Derived.LaidMore
import Derived.Deep.DeepHandedRow
import Derived.BigQuiet
set_option linter.unusedVariables false
set_option maxRecDepth 1000000
set_option linter.unusedSimpArgs false
namespace Go.Proofs.YtdpabanajgegjaaGreatDoor.U
open Go Go.RowKit M
def sl(i:Nat):Nat:=if i<16 then 1 else if i<18 then 3 else 11
def sm(i:Nat):Nat:=if i<16 then 0 else if i<17 then 2 else if i<18 then 3 else 7
theorem sl_le(i:Nat):1≤sl i∧sl i≤11:=by
 unfold sl
 split
 · omega
 · split<;>omega
theorem sm_le(i:Nat):sm i≤7:=by
 unfold sm
 split
 · omega
 · split
   · omega
   · split<;>omega
structure Tab(w:World):Prop where
 at0:∀i,i<19→w.cell? ⟨4,i*2,none⟩=some (.int .i64 (sl i:Nat))
 at1:∀i,i<19→w.cell? ⟨4,i*2+1,none⟩=some (.int .i64 (sm i:Nat))
theorem Tab.lt{w:World}(h:Tab w): 4 <w.heap.size:=World.block_lt_of_cell? _ _ (h.at0 0 (by omega))
theorem Tab.below{w w':World}{n:Nat}(h:Tab w)(hb:Below n w w')(hn:w.heap.size≤n):Tab w':=
 ⟨fun i hi=>(hb.cell (p:=⟨4,i*2,none⟩) (Nat.lt_of_lt_of_le h.lt hn)).trans (h.at0 i hi),fun i hi=>(hb.cell (p:=⟨4,i*2+1,none⟩) (Nat.lt_of_lt_of_le h.lt hn)).trans (h.at1 i hi)⟩
theorem gSays: Tryz.prog.globalNamed "platen/runs.says" =some 4 :=by kernel_rfl
theorem tSays:(Tryz.prog.globals[4]?).map (·.type)=some 289 :=by kernel_rfl
theorem cellsPair: Tryz.prog.cellsOf 288 =2:=by kernel_rfl
theorem cellsInt: Tryz.prog.cellsOf 3 =1:=by kernel_rfl
theorem open_pair{H:Type}{enc:TypeId×Value→H}{w:World}{base:Nat}{spare:Nat→Bool}{held:Bool}{m:Nat}{cs:List Value}{x:DataW H×List MemPlace}(h:DataW.trod enc Tryz.prog w base spare held m 288 cs=some x){a b:Int}(hx:x.1=.agg [.lit (.int .i64 a),.lit (.int .i64 b)]):
 cs=[.int .i64 a,.int .i64 b]:=by
 obtain⟨xs,k,_,rfl,hl,hxl,hf⟩:=DataW.trod_array Tryz.underlying288 h;rw[cellsPair] at hl
 match cs,hl with
 |[v0,v1],_=>
  match xs,hxl with
  |[y0,y1],_=>
   have e0:=hf 0 (by omega);have e1:=hf 1 (by omega);rw[cellsInt] at e0 e1;simp only[Nat.zero_mul,Nat.one_mul,List.drop_zero,List.drop_succ_cons,List.take_succ_cons,List.take_zero,List.getElem?_cons_zero,List.getElem?_cons_succ] at e0 e1;obtain⟨n0,h0,q0,_⟩:=DataW.trod_int Tryz.underlying3 e0;obtain⟨n1,h1,q1,_⟩:=DataW.trod_int Tryz.underlying3 e1;simp only[List.cons.injEq,and_true] at h0 h1;simp only[List.map_cons,List.map_nil,DataW.agg.injEq,List.cons.injEq,and_true] at hx;subst q0 q1;simp only[DataW.lit.injEq,Lit.int.injEq,true_and] at hx;obtain⟨rfl,rfl⟩:=hx;rw[h0,h1]
theorem tab_of_laid{W:World}{laid:List (String×DataW Unit)}(hl:laid=[("platen/runs.says",Rows.laid_platen_runs_says)])(h:laidMet Tryz.prog laid W):Tab W:=by
 subst hl;obtain⟨ps,⟨g0,t0,cs0,f0,p0,q0,hg0,ht0,hv0,hd0,_,_⟩,_⟩:=h;obtain rfl:=Option.some.inj (gSays.symm.trans hg0);obtain rfl:=Option.some.inj (tSays.symm.trans ht0);obtain⟨xs,m,_,hx,hlen,hn,hel⟩:=DataW.trod_array Tryz.underlying289 hd0;simp only[Prod.mk.injEq] at hx;have hx1:=hx.1
 have hxs:xs.map (·.1)=(List.range 19).map (fun i=>(DataW.agg [.lit (.int .i64 (sl i:Nat)),.lit (.int .i64 (sm i:Nat))]:DataW Unit)):=by
  unfold Rows.laid_platen_runs_says at hx1;injection hx1 with hx1
  rw[←hx1];rfl
 have hcell:=fun j=>World.var?_cell hg0 hv0 j
 have each:∀i,i<19→(cs0.toList.drop (i*2)).take 2=[.int .i64 (sl i:Nat),.int .i64 (sm i:Nat)]:=fun i hi=>by
  have h1:=hel i hi;rw[cellsPair] at h1;have hy:xs[i]? =some xs[i]:=List.getElem?_eq_getElem (by omega);rw[hy] at h1;refine open_pair h1 ?_
  have h2:(xs.map (·.1))[i]? =some (xs[i]).1:=by rw[List.getElem?_map,hy];rfl
  rw[hxs,List.getElem?_map,List.getElem?_range hi] at h2;injection h2 with h2
  exact h2.symm
 have cell:∀i k,i<19→k<2→cs0[i*2+k]? =[Value.int .i64 (sl i:Nat),.int .i64 (sm i:Nat)][k]? :=fun i k hi hk=>by
  rw[←each i hi,List.getElem?_take,if_pos hk,List.getElem?_drop,Array.getElem?_toList]
 exact⟨fun i hi=>by have:=hcell (i*2);rw[show i*2=i*2+0 from rfl,cell i 0 hi (by omega)] at this;exact this,fun i hi=>by have:=hcell (i*2+1);rw[cell i 1 hi (by omega)] at this;exact this⟩
theorem rbs_sm{s:Nat}(h:s<19):rbs s=((sm s:Nat):Int):=by
 by_cases h1:s<16
 · unfold rbs sm;rw[if_pos h1,if_pos h1];rfl
 · have h2:s=16∨s=17∨s=18:=by omega
   rcases h2 with rfl|rfl|rfl<;>rfl
theorem rbs_no{s:Nat}(h:¬s<19):rbs s= -1:=by
 unfold rbs;rw[if_neg (by omega),if_neg (by omega),if_neg (by omega),if_neg (by omega)]
theorem tms_yes{s e:Nat}(h:s<19)(he:e<2^sm s):tms ⟨s,e⟩=sl s+e:=by
 by_cases h1:s<16
 · have h2:sm s=0:=by unfold sm;rw[if_pos h1]
   rw[h2] at he;obtain rfl:e=0:=by omega
   rw[tms_lit h1];unfold sl;rw[if_pos h1]
 · have h2:s=16∨s=17∨s=18:=by omega
   rcases h2 with rfl|rfl|rfl
   · rw[tms_16 (by simpa [sm] using he)];simp[sl]
   · rw[tms_17 (by simpa [sm] using he)];simp[sl]
   · rw[tms_18 (by simpa [sm] using he)];simp[sl]
theorem tms_no{s e:Nat}(h:s<19)(he:¬e<2^sm s):tms ⟨s,e⟩=0:=by
 unfold tms;simp only;by_cases h1:s<16
 · have h2:sm s=0:=by unfold sm;rw[if_pos h1]
   rw[h2] at he;rw[if_neg (by omega),if_neg (by omega),if_neg (by omega),if_neg (by omega)]
 · have h2:s=16∨s=17∨s=18:=by omega
   rcases h2 with rfl|rfl|rfl
   · have:¬e<4:=by simpa [sm] using he
     rw[if_neg (by omega),if_neg (by omega),if_neg (by omega),if_neg (by omega)]
   · have:¬e<8:=by simpa [sm] using he
     rw[if_neg (by omega),if_neg (by omega),if_neg (by omega),if_neg (by omega)]
   · have:¬e<128:=by simpa [sm] using he
     rw[if_neg (by omega),if_neg (by omega),if_neg (by omega),if_neg (by omega)]
theorem tms_far{s e:Nat}(h:¬s<19):tms ⟨s,e⟩=0:=by
 unfold tms;simp only;rw[if_neg (by omega),if_neg (by omega),if_neg (by omega),if_neg (by omega)]
theorem belowDN{w w':World}{B:Nat}(h:Below B w w')(n:Nat):Below B w (w'.drewN n):=⟨h.os,h.tape,h.output,h.size,h.block⟩
set_option maxRecDepth 1000000 in
theorem bits_any(s:Nat)(w:World)(H:Tab w)(hs:s≤255):Calls Tryz.prog 203 #[.int .u8 s] w fun x w'=>x=.returned (.tuple #[.int .i64 (max (rbs s) 0),.bool (decide (0≤rbs s))])∧w=w':=by
 by_cases h:s<19
 · have c1:=H.at1 s h
   have hm:=sm_le s;have hr:=rbs_sm h;rw[hr,show max ((sm s:Nat):Int) 0=((sm s:Nat):Int) by omega,show decide ((0:Int)≤((sm s:Nat):Int))=true from decide_eq_true (by omega)];obtain⟨b,hb⟩:∃b,sm s=b:=⟨_,rfl⟩
   rw[hb] at c1 ⊢;have d1:decide ((19:Int)≤(s:Int))=false:=decide_eq_false (by omega);have d1':decide (19≤s)=false:=decide_eq_false (by omega);clear hm hr hb H;go_enter Tryz.func203,Tryz.ntmps203;go_wp2_with fail;exact bodyPost_ret (v:=.tuple #[.int .i64 b,.bool true]) (by simp[results,Tryz.results203,go_sem]) rfl ⟨rfl,rfl⟩
 · rw[rbs_no h]
   have d1:decide ((19:Int)≤(s:Int))=true:=decide_eq_true (by omega);have d1':decide (19≤s)=true:=decide_eq_true (by omega);clear h H;go_enter Tryz.func203,Tryz.ntmps203;go_wp2_with fail;exact bodyPost_ret (v:=.tuple #[.int .i64 0,.bool false]) (by simp[results,Tryz.results203,go_sem]) rfl ⟨rfl,rfl⟩
end Go.Proofs.YtdpabanajgegjaaGreatDoor.U
namespace Go.Proofs.YtdpabanajgegjaaGreatDoor.U
open Go.Lib (hid)
open Go Go.RowKit M
set_option maxRecDepth 1000000 in
theorem times_any(s e:Nat)(w:World)(H:Tab w)(hs:s≤255)(he:e≤255):Calls Tryz.prog 167 #[.agg #[.int .u8 s,.int .u8 e]] w fun x w'=>x=.returned (.tuple #[.int .i64 (tms ⟨s,e⟩:Nat),.bool (decide (0<tms ⟨s,e⟩))])∧Below w.heap.size w w':=by
 have HB:=hid (fun w' (b:Below w.heap.size w w')=>bits_any s w' (H.below b (Nat.le_refl _)) hs);by_cases h:s<19
 · have hr:=rbs_sm h
   rw[hr,show max ((sm s:Nat):Int) 0=((sm s:Nat):Int) by omega,show decide ((0:Int)≤((sm s:Nat):Int))=true from decide_eq_true (by omega)] at HB;have hm:=sm_le s;by_cases hx:e<2^sm s
   · rw[tms_yes h hx]
     have hl:=sl_le s;rw[show decide (0<sl s+e)=true from decide_eq_true (by omega)];have c0:=(H.below ((Below.refl _ w).alloc (Nat.le_refl _) (.cells #[.int .u8 s,.int .u8 e] 134)) (Nat.le_refl _)).at0 s h;have hq:e/2^sm s=0:=Nat.div_eq_of_lt hx;obtain⟨b,hb⟩:∃b,sm s=b:=⟨_,rfl⟩
     obtain⟨l,hl'⟩:∃l,sl s=l:=⟨_,rfl⟩
     rw[hb] at hm hq HB;rw[hl'] at c0 hl ⊢
     have hd:(((e:Int) /2^b) !=0)=false:=by
      have:((e:Int) /2^b)=((e/2^b:Nat):Int):=by simp
      rw[this,hq];rfl
     have hw1:IntKind.i64.wrap (e:Int)=(e:Int):=by rw[IntKind.wrap_i64];omega
     have hw2:IntKind.i64.wrap ((l:Int)+(e:Int))=((l+e:Nat):Int):=by rw[IntKind.wrap_i64];omega
     clear hr hb hl' H hx hq;go_enter Tryz.func167,Tryz.ntmps167;go_wp2_with (go_at_call 203;(with_reducible refine(HB.out _ ((Below.refl _ w).alloc (Nat.le_refl _) _)).mono ?_);rintro e w1 ⟨rfl,rfl⟩)
     go_quiet (fail)
     go_wp2_with fail;exact bodyPost_ret (v:=.tuple #[.int .i64 (l+e:Nat),.bool true]) (by simp[results,Tryz.results167,go_sem]) rfl ⟨rfl,belowDN ((Below.refl _ _).alloc (Nat.le_refl _) _) _⟩
   · rw[tms_no h hx]
     have hq:0<e/2^sm s:=Nat.div_pos (by omega) (Nat.pos_of_ne_zero (by simp));obtain⟨b,hb⟩:∃b,sm s=b:=⟨_,rfl⟩
     rw[hb] at hm hq HB
     have hd:(((e:Int) /2^b) !=0)=true:=by
      have:((e:Int) /2^b)=((e/2^b:Nat):Int):=by simp
      rw[this];rw[bne_iff_ne];omega
     clear hr hb H hx hq;go_enter Tryz.func167,Tryz.ntmps167;go_wp2_with (go_at_call 203;(with_reducible refine(HB.out _ ((Below.refl _ w).alloc (Nat.le_refl _) _)).mono ?_);rintro e w1 ⟨rfl,rfl⟩);exact bodyPost_ret (v:=.tuple #[.int .i64 0,.bool false]) (by simp[results,Tryz.results167,go_sem]) rfl ⟨rfl,((Below.refl _ _).alloc (Nat.le_refl _) _)⟩
 · rw[rbs_no h] at HB
   rw[tms_far h];clear h H;go_enter Tryz.func167,Tryz.ntmps167;go_wp2_with (go_at_call 203;(with_reducible refine(HB.out _ ((Below.refl _ w).alloc (Nat.le_refl _) _)).mono ?_);rintro e w1 ⟨rfl,rfl⟩);exact bodyPost_ret (v:=.tuple #[.int .i64 0,.bool false]) (by simp[results,Tryz.results167,go_sem]) rfl ⟨rfl,((Below.refl _ _).alloc (Nat.le_refl _) _)⟩
end Go.Proofs.YtdpabanajgegjaaGreatDoor.U
