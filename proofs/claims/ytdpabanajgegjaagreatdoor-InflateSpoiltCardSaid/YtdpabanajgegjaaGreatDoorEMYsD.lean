/- Texts of one place, one behind the other: YsD, YsE, YsF. -/
import Derived.Test.YtdpabanajgegjaaGreatDoorEMRsA
import Derived.Deep.RegionHeld3
import Derived.LoopNIn
import Derived.Test.YtdpabanajgegjaaGreatDoorRows
import Derived.OpenShut
import Derived.LaidMore
import Derived.Deep.DeepHandedRow
set_option linter.unusedVariables false
set_option maxRecDepth 1000000
set_option linter.unusedSimpArgs false
namespace Go.Proofs.YtdpabanajgegjaaGreatDoor.Y
open Go Go.RowKit M
structure Tab(w:World):Prop where
 l0:w.cell? ⟨2,0,none⟩=some (.int .i64 257)
 l1:w.cell? ⟨2,1,none⟩=some (.int .i64 28)
 l2:w.cell? ⟨2,2,none⟩=some (.int .i64 3)
 l3:w.cell? ⟨2,3,none⟩=some (.int .i64 257)
 l4:w.cell? ⟨2,4,none⟩=some (.int .i64 2)
 d0:w.cell? ⟨3,0,none⟩=some (.int .i64 0)
 d1:w.cell? ⟨3,1,none⟩=some (.int .i64 30)
 d2:w.cell? ⟨3,2,none⟩=some (.int .i64 1)
 d3:w.cell? ⟨3,3,none⟩=some (.int .i64 32768)
 d4:w.cell? ⟨3,4,none⟩=some (.int .i64 1)
theorem Tab.below{w w':World}{n:Nat}(h:Tab w)(hb:Below n w w')(hn:w.heap.size≤n):Tab w':=by
 have hl:∀ {p v},w.cell? p=some v→w'.cell? p=some v:=fun {p v} h=>(hb.cell (Nat.lt_of_lt_of_le (World.block_lt_of_cell? _ _ h) hn)).trans h
 exact⟨hl h.l0,hl h.l1,hl h.l2,hl h.l3,hl h.l4,hl h.d0,hl h.d1,hl h.d2,hl h.d3,hl h.d4⟩
theorem gLens: Tryz.prog.globalNamed "platen/symbol.lengths" =some 2 :=by kernel_rfl
theorem gDists: Tryz.prog.globalNamed "platen/symbol.distances" =some 3 :=by kernel_rfl
theorem tLens:(Tryz.prog.globals[2]?).map (·.type)=some 255 :=by kernel_rfl
theorem tDists:(Tryz.prog.globals[3]?).map (·.type)=some 255 :=by kernel_rfl
theorem cellsRow: Tryz.prog.cellsOf 255 =5:=by kernel_rfl
theorem cellsInt: Tryz.prog.cellsOf 3 =1:=by kernel_rfl
theorem open_row{H:Type}{enc:TypeId×Value→H}{w:World}{base:Nat}{spare:Nat→Bool}{held:Bool}{m:Nat}{cs:List Value}{x:DataW H×List MemPlace}(h:DataW.trod enc Tryz.prog w base spare held m 255 cs=some x){a b c d f:Int}(hx:x.1=.agg [.lit (.int .i64 a),.lit (.int .i64 b),.lit (.int .i64 c),.lit (.int .i64 d),.lit (.int .i64 f)]):
 cs=[.int .i64 a,.int .i64 b,.int .i64 c,.int .i64 d,.int .i64 f]:=by
 obtain⟨xs,k,_,rfl,hl,hxl,hf⟩:=DataW.trod_struct Tryz.underlying255 h;rw[cellsRow] at hl
 match cs,hl with
 |[v0,v1,v2,v3,v4],_=>
  match xs,hxl with
  |[y0,y1,y2,y3,y4],_=>
   have e0:DataW.trod enc Tryz.prog w base spare held k 3 (([v0,v1,v2,v3,v4].drop 0).take (Tryz.prog.cellsOf 3))=some y0:=hf 0 _ rfl;have e1:DataW.trod enc Tryz.prog w base spare held k 3 (([v0,v1,v2,v3,v4].drop 1).take (Tryz.prog.cellsOf 3))=some y1:=hf 1 _ rfl;have e2:DataW.trod enc Tryz.prog w base spare held k 3 (([v0,v1,v2,v3,v4].drop 2).take (Tryz.prog.cellsOf 3))=some y2:=hf 2 _ rfl;have e3:DataW.trod enc Tryz.prog w base spare held k 3 (([v0,v1,v2,v3,v4].drop 3).take (Tryz.prog.cellsOf 3))=some y3:=hf 3 _ rfl;have e4:DataW.trod enc Tryz.prog w base spare held k 3 (([v0,v1,v2,v3,v4].drop 4).take (Tryz.prog.cellsOf 3))=some y4:=hf 4 _ rfl;simp only[cellsInt,List.drop_zero,List.drop_succ_cons,List.take_succ_cons,List.take_zero] at e0 e1 e2 e3 e4;obtain⟨n0,h0,q0,_⟩:=DataW.trod_int Tryz.underlying3 e0;obtain⟨n1,h1,q1,_⟩:=DataW.trod_int Tryz.underlying3 e1;obtain⟨n2,h2,q2,_⟩:=DataW.trod_int Tryz.underlying3 e2;obtain⟨n3,h3,q3,_⟩:=DataW.trod_int Tryz.underlying3 e3;obtain⟨n4,h4,q4,_⟩:=DataW.trod_int Tryz.underlying3 e4;simp only[List.cons.injEq,and_true] at h0 h1 h2 h3 h4;simp only[List.map_cons,List.map_nil,DataW.agg.injEq,List.cons.injEq,and_true] at hx;subst q0 q1 q2 q3 q4;simp only[DataW.lit.injEq,Lit.int.injEq,true_and] at hx;obtain⟨rfl,rfl,rfl,rfl,rfl⟩:=hx;rw[h0,h1,h2,h3,h4]
theorem tab_of_laid{W:World}{laid:List (String×DataW Unit)}(hl:laid=[("platen/symbol.lengths",Rows.laid_platen_symbol_lengths),("platen/symbol.distances",Rows.laid_platen_symbol_distances)])(h:laidMet Tryz.prog laid W):Tab W:=by
 subst hl;obtain⟨ps,⟨g0,t0,cs0,f0,p0,q0,hg0,ht0,hv0,hd0,⟨g1,t1,cs1,f1,p1,q1,hg1,ht1,hv1,hd1,_,_⟩,_⟩,_⟩:=h;obtain rfl:=Option.some.inj (gLens.symm.trans hg0);obtain rfl:=Option.some.inj (tLens.symm.trans ht0);obtain rfl:=Option.some.inj (gDists.symm.trans hg1);obtain rfl:=Option.some.inj (tDists.symm.trans ht1);have k0:=open_row hd0 rfl;have k1:=open_row hd1 rfl;have c0:=fun j=>World.var?_cell hg0 hv0 j
 have c1:=fun j=>World.var?_cell hg1 hv1 j
 have each0:∀j,cs0[j]? =cs0.toList[j]? :=fun j=>(Array.getElem?_toList).symm
 have each1:∀j,cs1[j]? =cs1.toList[j]? :=fun j=>(Array.getElem?_toList).symm
 have z0:=fun j=>(c0 j).trans ((each0 j).trans (by rw[k0]))
 have z1:=fun j=>(c1 j).trans ((each1 j).trans (by rw[k1]))
 exact⟨z0 0,z0 1,z0 2,z0 3,z0 4,z1 0,z1 1,z1 2,z1 3,z1 4⟩
theorem bt_lb:∀i,i<28→bt 2 i=lb i:=by decide
theorem lt_ll:∀i,i<28→lt 3 2 i=ll i:=by decide
theorem bt_db:∀i,i<30→bt 1 i=db i:=by decide
theorem lt_dl:∀i,i<30→lt 1 1 i=dl i:=by decide
end Go.Proofs.YtdpabanajgegjaaGreatDoor.Y
namespace Go.Proofs.YtdpabanajgegjaaGreatDoor.Y
open Go.Lib (hid)
open Go Go.RowKit M
set_option maxRecDepth 1000000 in
theorem lbits_no(x:Int)(w:World)(H:Tab w)(hx:x<257∨285<x):Calls Tryz.prog 136 #[.int .i64 x] w fun e w'=>e=.returned (.tuple #[.int .i64 0,.bool false])∧Below w.heap.size w w':=by
 have HS:=hid (show Calls Tryz.prog 172 #[.agg #[.int .i64 257,.int .i64 28,.int .i64 3,.int .i64 257,.int .i64 2],.int .i64 x] w fun e w'=>e=.returned (.tuple #[.int .i64 0,.bool false])∧Below w.heap.size w w' from bitsOf_no 257 28 3 257 2 x w (by decide) (by decide) (by omega));have c0:=H.l0;have c1:=H.l1;have c2:=H.l2;have c3:=H.l3;have c4:=H.l4;have e1:(x==285)=false:=by rw[beq_eq_false_iff_ne];omega
 clear H hx;go_enter Tryz.func136,Tryz.ntmps136;go_wp2_with (go_at_call 172;(with_reducible refine HS.out.mono ?_);rintro e w1 ⟨rfl,b1⟩;have B1:=hid b1;clear b1);exact bodyPost_ret (v:=.tuple #[.int .i64 0,.bool false]) (by simp[results,Tryz.results136,go_sem]) rfl ⟨rfl,B1.out⟩
set_option maxRecDepth 1000000 in
theorem lbits_yes(i:Nat)(x:Int)(w:World)(H:Tab w)(hi:i≤28)(hx:x=257+(i:Int)):Calls Tryz.prog 136 #[.int .i64 x] w fun e w'=>e=.returned (.tuple #[.int .i64 (lb i:Nat),.bool true])∧Below w.heap.size w w':=by
 by_cases h:i=28
 · subst h
   obtain rfl:x=285:=by omega
   show Calls Tryz.prog 136 #[.int .i64 285] w fun e w'=>e=.returned (.tuple #[.int .i64 0,.bool true])∧Below w.heap.size w w'
   go_enter Tryz.func136,Tryz.ntmps136;go_wp2_with fail;exact bodyPost_ret (v:=.tuple #[.int .i64 0,.bool true]) (by simp[results,Tryz.results136,go_sem]) rfl ⟨rfl,Below.refl _ _⟩
 · have hi':i<28:=by omega
   have HS:=hid (show Calls Tryz.prog 172 #[.agg #[.int .i64 257,.int .i64 28,.int .i64 3,.int .i64 257,.int .i64 2],.int .i64 x] w fun e w'=>e=.returned (.tuple #[.int .i64 (lb i:Nat),.bool true])∧Below w.heap.size w w' from by rw[←bt_lb i hi'];exact bitsOf_yes 257 28 3 257 2 i x w (by decide) (by decide) (.inr rfl) hi' (by omega));have c0:=H.l0;have c1:=H.l1;have c2:=H.l2;have c3:=H.l3;have c4:=H.l4;have e1:(x==285)=false:=by rw[beq_eq_false_iff_ne];omega
   obtain⟨b,hb⟩:∃b,lb i=b:=⟨_,rfl⟩
   rw[hb] at HS ⊢;clear H hi hi' hx h hb;go_enter Tryz.func136,Tryz.ntmps136;go_wp2_with (go_at_call 172;(with_reducible refine HS.out.mono ?_);rintro e w1 ⟨rfl,b1⟩;have B1:=hid b1;clear b1);exact bodyPost_ret (v:=.tuple #[.int .i64 b,.bool true]) (by simp[results,Tryz.results136,go_sem]) rfl ⟨rfl,B1.out⟩
set_option maxRecDepth 1000000 in
theorem dbits_no(x:Int)(w:World)(H:Tab w)(hx:x<0∨29<x):Calls Tryz.prog 139 #[.int .i64 x] w fun e w'=>e=.returned (.tuple #[.int .i64 0,.bool false])∧Below w.heap.size w w':=by
 have HS:=hid (show Calls Tryz.prog 172 #[.agg #[.int .i64 0,.int .i64 30,.int .i64 1,.int .i64 32768,.int .i64 1],.int .i64 x] w fun e w'=>e=.returned (.tuple #[.int .i64 0,.bool false])∧Below w.heap.size w w' from bitsOf_no 0 30 1 32768 1 x w (by decide) (by decide) (by omega));have c0:=H.d0;have c1:=H.d1;have c2:=H.d2;have c3:=H.d3;have c4:=H.d4;clear H hx;go_enter Tryz.func139,Tryz.ntmps139;go_wp2_with (go_at_call 172;(with_reducible refine HS.out.mono ?_);rintro e w1 ⟨rfl,b1⟩;have B1:=hid b1;clear b1);exact bodyPost_ret (v:=.tuple #[.int .i64 0,.bool false]) (by simp[results,Tryz.results139,go_sem]) rfl ⟨rfl,B1.out⟩
set_option maxRecDepth 1000000 in
theorem dbits_yes(i:Nat)(x:Int)(w:World)(H:Tab w)(hi:i≤29)(hx:x=(i:Int)):Calls Tryz.prog 139 #[.int .i64 x] w fun e w'=>e=.returned (.tuple #[.int .i64 (db i:Nat),.bool true])∧Below w.heap.size w w':=by
 have HS:=hid (show Calls Tryz.prog 172 #[.agg #[.int .i64 0,.int .i64 30,.int .i64 1,.int .i64 32768,.int .i64 1],.int .i64 x] w fun e w'=>e=.returned (.tuple #[.int .i64 (db i:Nat),.bool true])∧Below w.heap.size w w' from by rw[←bt_db i (by omega)];exact bitsOf_yes 0 30 1 32768 1 i x w (by decide) (by decide) (.inl rfl) (by omega) (by omega));have c0:=H.d0;have c1:=H.d1;have c2:=H.d2;have c3:=H.d3;have c4:=H.d4;obtain⟨b,hb⟩:∃b,db i=b:=⟨_,rfl⟩
 rw[hb] at HS ⊢;clear H hi hx hb;go_enter Tryz.func139,Tryz.ntmps139;go_wp2_with (go_at_call 172;(with_reducible refine HS.out.mono ?_);rintro e w1 ⟨rfl,b1⟩;have B1:=hid b1;clear b1);exact bodyPost_ret (v:=.tuple #[.int .i64 b,.bool true]) (by simp[results,Tryz.results139,go_sem]) rfl ⟨rfl,B1.out⟩
theorem lof_many{i e:Nat}(hi:i<28)(h:¬e<2^lb i):lof i e=0:=by
 unfold lof;rw[if_neg (fun q=>h (Nat.lt_of_lt_of_le q.2 (ls_le (by omega))))]
theorem lof_few{i e:Nat}(hi:i<28)(h:e<2^lb i):lof i e=(if ll i+e≤257 then ll i+e else 0)∧(0<lof i e↔ll i+e≤257):=by
 have h3:∀i,i<28→3≤ll i∧(i≠27→ll i+2^lb i≤227):=by decide
 obtain⟨g1,g2⟩:=h3 i hi;have hs:=lof_ls (i:=i) (e:=e) (by omega);by_cases q:ll i+e≤257
 · have:e<ls i:=by
    refine hs.1 ⟨h,fun g=> ?_⟩;obtain⟨rfl,rfl⟩:=g;exact absurd q (by decide)
   unfold lof;rw[if_pos ⟨by omega,this⟩,if_pos q];exact⟨rfl,fun _=>q,fun _=>by omega⟩
 · have:¬e<ls i:=fun g=>by
    by_cases e27:i=27
    · subst e27
      have g':e<31:=g;have q':¬227+e≤257:=q;omega
    · have:=g2 e27
      omega
   unfold lof;rw[if_neg (fun g=>this g.2),if_neg q];exact⟨rfl,fun g=>by omega,fun g=>absurd g q⟩
theorem dof_many{i e:Nat}(h:¬e<2^db i):dof i e=0:=by
 unfold dof;rw[if_neg (fun q=>h q.2)]
theorem dof_few{i e:Nat}(hi:i<30)(h:e<2^db i):dof i e=(if dl i+e≤32768 then dl i+e else 0)∧(0<dof i e↔dl i+e≤32768):=by
 have h3:∀i,i<30→1≤dl i∧dl i+2^db i≤32769:=by decide
 obtain⟨g1,g2⟩:=h3 i hi;have q:dl i+e≤32768:=by omega
 unfold dof;rw[if_pos ⟨by omega,h⟩,if_pos q];exact⟨rfl,fun _=>q,fun _=>by omega⟩
set_option maxRecDepth 1000000 in
theorem lengthOf_no(x:Int)(e:Nat)(w:World)(H:Tab w)(hx:x<257∨285<x):Calls Tryz.prog 137 #[.int .i64 x,.int .u32 e] w fun y w'=>y=.returned (.tuple #[.int .i64 0,.bool false])∧Below w.heap.size w w':=by
 have HS:=hid (show Calls Tryz.prog 173 #[.agg #[.int .i64 257,.int .i64 28,.int .i64 3,.int .i64 257,.int .i64 2],.int .i64 x,.int .u32 e] w fun y w'=>y=.returned (.tuple #[.int .i64 0,.bool false])∧Below w.heap.size w w' from numberOf_no 257 28 3 257 2 x e w (by decide) (by decide) (by omega));have c0:=H.l0;have c1:=H.l1;have c2:=H.l2;have c3:=H.l3;have c4:=H.l4;have e1:(x==285)=false:=by rw[beq_eq_false_iff_ne];omega
 clear H hx;go_enter Tryz.func137,Tryz.ntmps137;go_wp2_with (go_at_call 173;(with_reducible refine HS.out.mono ?_);rintro e w1 ⟨rfl,b1⟩;have B1:=hid b1;clear b1);exact bodyPost_ret (v:=.tuple #[.int .i64 0,.bool false]) (by simp[results,Tryz.results137,go_sem]) rfl ⟨rfl,B1.out⟩
set_option maxRecDepth 1000000 in
theorem lengthOf_yes(i e:Nat)(x:Int)(w:World)(H:Tab w)(hi:i≤28)(hx:x=257+(i:Int)):Calls Tryz.prog 137 #[.int .i64 x,.int .u32 e] w fun y w'=>y=.returned (.tuple #[.int .i64 (lof i e:Nat),.bool (decide (0<lof i e))])∧Below w.heap.size w w':=by
 by_cases h:i=28
 · subst h
   obtain rfl:x=285:=by omega
   by_cases g:e=0
   · subst g
     show Calls Tryz.prog 137 #[.int .i64 285,.int .u32 0] w fun y w'=>y=.returned (.tuple #[.int .i64 258,.bool true])∧Below w.heap.size w w'
     go_enter Tryz.func137,Tryz.ntmps137;go_wp2_with fail;exact bodyPost_ret (v:=.tuple #[.int .i64 258,.bool true]) (by simp[results,Tryz.results137,go_sem]) rfl ⟨rfl,Below.refl _ _⟩
   · have hv:lof 28 e=0:=by
      unfold lof;rw[if_neg (fun q=>by have:e<1:=q.2;omega)]
     rw[hv];show Calls Tryz.prog 137 #[.int .i64 285,.int .u32 e] w fun y w'=>y=.returned (.tuple #[.int .i64 0,.bool false])∧Below w.heap.size w w'
     have HS:=hid (show Calls Tryz.prog 173 #[.agg #[.int .i64 257,.int .i64 28,.int .i64 3,.int .i64 257,.int .i64 2],(.int .i64 285),.int .u32 e] w fun y w'=>y=.returned (.tuple #[.int .i64 0,.bool false])∧Below w.heap.size w w' from numberOf_no 257 28 3 257 2 285 e w (by decide) (by decide) (.inr (by decide)));have c0:=H.l0;have c1:=H.l1;have c2:=H.l2;have c3:=H.l3;have c4:=H.l4;have e1:((e:Int)==0)=false:=by rw[beq_eq_false_iff_ne];omega
     have e2:(e==0)=false:=by rw[beq_eq_false_iff_ne];exact g
     clear H hi hx g hv;go_enter Tryz.func137,Tryz.ntmps137;go_wp2_with (go_at_call 173;(with_reducible refine HS.out.mono ?_);rintro e w1 ⟨rfl,b1⟩;have B1:=hid b1;clear b1);exact bodyPost_ret (v:=.tuple #[.int .i64 0,.bool false]) (by simp[results,Tryz.results137,go_sem]) rfl ⟨rfl,B1.out⟩
 · have hi':i<28:=by omega
   have c0:=H.l0;have c1:=H.l1;have c2:=H.l2;have c3:=H.l3;have c4:=H.l4;have e1:(x==285)=false:=by rw[beq_eq_false_iff_ne];omega
   obtain⟨v,b,HS,hv,hb⟩:∃ (v:Nat) (b:Bool),Hid (Calls Tryz.prog 173 #[.agg #[.int .i64 257,.int .i64 28,.int .i64 3,.int .i64 257,.int .i64 2],.int .i64 x,.int .u32 e] w fun y w'=>y=.returned (.tuple #[.int .i64 v,.bool b])∧Below w.heap.size w w')∧lof i e=v∧decide (0<lof i e)=b:=by
    by_cases q:e<2^lb i
    · obtain⟨f1,f2⟩:=lof_few hi' q
      have hq:=numberOf_yes 257 28 3 257 2 i e x w (by decide) (by decide) (by decide) (.inr rfl) (by decide) hi' (by omega) (by rw[bt_lb i hi'];exact q) (by rw[lt_ll i hi'];have:=ll_le i hi;omega);rw[lt_ll i hi'] at hq;exact⟨_,_,hid hq,f1,decide_eq_decide.2 f2⟩
    · have hq:=numberOf_many 257 28 3 257 2 i e x w (by decide) (by decide) (.inr rfl) hi' (by omega) (by rw[bt_lb i hi'];exact q)
      exact⟨0,false,hid hq,lof_many hi' q,by rw[lof_many hi' q];rfl⟩
   rw[hb,hv];clear H hi hi' hx h hb hv;go_enter Tryz.func137,Tryz.ntmps137;go_wp2_with (go_at_call 173;(with_reducible refine HS.out.mono ?_);rintro e w1 ⟨rfl,b1⟩;have B1:=hid b1;clear b1);exact bodyPost_ret (v:=.tuple #[.int .i64 v,.bool b]) (by simp[results,Tryz.results137,go_sem]) rfl ⟨rfl,B1.out⟩
set_option maxRecDepth 1000000 in
theorem distOf_no(x:Int)(e:Nat)(w:World)(H:Tab w)(hx:x<0∨29<x):Calls Tryz.prog 140 #[.int .i64 x,.int .u32 e] w fun y w'=>y=.returned (.tuple #[.int .i64 0,.bool false])∧Below w.heap.size w w':=by
 have HS:=hid (show Calls Tryz.prog 173 #[.agg #[.int .i64 0,.int .i64 30,.int .i64 1,.int .i64 32768,.int .i64 1],.int .i64 x,.int .u32 e] w fun y w'=>y=.returned (.tuple #[.int .i64 0,.bool false])∧Below w.heap.size w w' from numberOf_no 0 30 1 32768 1 x e w (by decide) (by decide) (by omega));have c0:=H.d0;have c1:=H.d1;have c2:=H.d2;have c3:=H.d3;have c4:=H.d4;clear H hx;go_enter Tryz.func140,Tryz.ntmps140;go_wp2_with (go_at_call 173;(with_reducible refine HS.out.mono ?_);rintro e w1 ⟨rfl,b1⟩;have B1:=hid b1;clear b1);exact bodyPost_ret (v:=.tuple #[.int .i64 0,.bool false]) (by simp[results,Tryz.results140,go_sem]) rfl ⟨rfl,B1.out⟩
set_option maxRecDepth 1000000 in
theorem distOf_yes(i e:Nat)(x:Int)(w:World)(H:Tab w)(hi:i≤29)(hx:x=(i:Int)):Calls Tryz.prog 140 #[.int .i64 x,.int .u32 e] w fun y w'=>y=.returned (.tuple #[.int .i64 (dof i e:Nat),.bool (decide (0<dof i e))])∧Below w.heap.size w w':=by
 have hi':i<30:=by omega
 have c0:=H.d0;have c1:=H.d1;have c2:=H.d2;have c3:=H.d3;have c4:=H.d4
 obtain⟨v,b,HS,hv,hb⟩:∃ (v:Nat) (b:Bool),Hid (Calls Tryz.prog 173 #[.agg #[.int .i64 0,.int .i64 30,.int .i64 1,.int .i64 32768,.int .i64 1],.int .i64 x,.int .u32 e] w fun y w'=>y=.returned (.tuple #[.int .i64 v,.bool b])∧Below w.heap.size w w')∧dof i e=v∧decide (0<dof i e)=b:=by
  by_cases q:e<2^db i
  · obtain⟨f1,f2⟩:=dof_few hi' q
    have hq:=numberOf_yes 0 30 1 32768 1 i e x w (by decide) (by decide) (by decide) (.inl rfl) (by decide) hi' (by omega) (by rw[bt_db i hi'];exact q) (by rw[lt_dl i hi'];have:=dl_le i hi;omega);rw[lt_dl i hi'] at hq;exact⟨_,_,hid hq,f1,decide_eq_decide.2 f2⟩
  · have hq:=numberOf_many 0 30 1 32768 1 i e x w (by decide) (by decide) (.inl rfl) hi' (by omega) (by rw[bt_db i hi'];exact q)
    exact⟨0,false,hid hq,dof_many q,by rw[dof_many q];rfl⟩
 rw[hb,hv];clear H hi hi' hx hb hv;go_enter Tryz.func140,Tryz.ntmps140;go_wp2_with (go_at_call 173;(with_reducible refine HS.out.mono ?_);rintro e w1 ⟨rfl,b1⟩;have B1:=hid b1;clear b1);exact bodyPost_ret (v:=.tuple #[.int .i64 v,.bool b]) (by simp[results,Tryz.results140,go_sem]) rfl ⟨rfl,B1.out⟩
end Go.Proofs.YtdpabanajgegjaaGreatDoor.Y
