import Derived.Test.YthgilhebnlglkaaGreatDoorEMRsA
import Derived.Deep.RegionHeld3
import Derived.LoopNIn
import Derived.Test.YthgilhebnlglkaaGreatDoorRows
import Derived.OpenShut
import Derived.LaidMore
import Derived.Deep.DeepHandedRow
set_option linter.all false
set_option maxHeartbeats 8000000
set_option maxRecDepth 1000000
open Go.Proofs.Tryz
namespace Go.Proofs.YthgilhebnlglkaaGreatDoor.Y
open Go Go.RowKit M
structure Tab(w:World):Prop where
 l0:w.cell? ⟨2,0,none⟩=some (.int .i64 257)
 l1:w.cell? ⟨2,1,none⟩=some (.int .i64 28)
 l2:w.cell? ⟨2,2,none⟩=some (.int .i64 3)
 l3:w.cell? ⟨2,3,none⟩=some (.int .i64 257)
 l4:w.cell? ⟨2,4,none⟩=some (.int .i64 2)
 d0:w.cell? ⟨3,0,none⟩=some (.int .i64 0)
 d1:w.cell? ⟨3,1,none⟩=some (.int .i64 30)
 d2:w.cell? ⟨3,2,none⟩=some (.int .i64 1)
 d3:w.cell? ⟨3,3,none⟩=some (.int .i64 32768)
 d4:w.cell? ⟨3,4,none⟩=some (.int .i64 1)
theorem Tab.below{w w':World}{n:Nat}(h:Tab w)(hb:Below n w w')(hn:w.heap.size<=n):Tab w':=by
 have hl:∀ {p v},w.cell? p=some v->w'.cell? p=some v:=λ{p v} h=>(hb.cell (Nat.lt_of_lt_of_le (qB h) hn)).trans h
 exact⟨hl h.l0,hl h.l1,hl h.l2,hl h.l3,hl h.l4,hl h.d0,hl h.d1,hl h.d2,hl h.d3,hl h.d4⟩
theorem zkg: prog.globalNamed "platen/symbol.lengths" =some 2 :=by kernel_rfl
theorem zj8: prog.globalNamed "platen/symbol.distances" =some 3 :=by kernel_rfl
theorem zjU:(prog.globals[2]?).map (·.type)=some 346 :=by kernel_rfl
theorem zih:(prog.globals[3]?).map (·.type)=some 346 :=by kernel_rfl
theorem zeB: prog.cellsOf 346 =5:=by kernel_rfl
theorem cellsInt: prog.cellsOf 3 =1:=by kernel_rfl
theorem z7A{H:Type}{enc:TypeId×Value->H}{w:World}{base:Nat}{spare:Nat->Bool}{held:Bool}{m:Nat}{cs:List Value}{x:DataW H×List MemPlace}(h:DataW.trod enc prog w base spare held m 346 cs=some x){a b c d f:Int}(hx:x.1=.agg [.lit (.int .i64 a),.lit (.int .i64 b),.lit (.int .i64 c),.lit (.int .i64 d),.lit (.int .i64 f)]):
 cs=[.int .i64 a,.int .i64 b,.int .i64 c,.int .i64 d,.int .i64 f]:=by
 obtain⟨xs,k,_,rfl,hl,hxl,hf⟩:=DataW.trod_struct underlying346 h;rw[zeB] at hl
 match cs,hl with
 |[v0,v1,v2,v3,v4],_=>
  match xs,hxl with
  |[y0,y1,y2,y3,y4],_=>
   have e0:DataW.trod enc prog w base spare held k 3 (([v0,v1,v2,v3,v4].drop 0).take (prog.cellsOf 3))=some y0:=hf 0 _ rfl;have e1:DataW.trod enc prog w base spare held k 3 (([v0,v1,v2,v3,v4].drop 1).take (prog.cellsOf 3))=some y1:=hf 1 _ rfl;have e2:DataW.trod enc prog w base spare held k 3 (([v0,v1,v2,v3,v4].drop 2).take (prog.cellsOf 3))=some y2:=hf 2 _ rfl;have e3:DataW.trod enc prog w base spare held k 3 (([v0,v1,v2,v3,v4].drop 3).take (prog.cellsOf 3))=some y3:=hf 3 _ rfl;have e4:DataW.trod enc prog w base spare held k 3 (([v0,v1,v2,v3,v4].drop 4).take (prog.cellsOf 3))=some y4:=hf 4 _ rfl;simp only[cellsInt,List.drop_zero,List.drop_succ_cons,List.take_succ_cons,List.take_zero] at e0 e1 e2 e3 e4;obtain⟨n0,h0,q0,_⟩:=DataW.trod_int underlying3 e0;obtain⟨n1,h1,q1,_⟩:=DataW.trod_int underlying3 e1;obtain⟨n2,h2,q2,_⟩:=DataW.trod_int underlying3 e2;obtain⟨n3,h3,q3,_⟩:=DataW.trod_int underlying3 e3;obtain⟨n4,h4,q4,_⟩:=DataW.trod_int underlying3 e4;simp only[List.cons.injEq,and_true] at h0 h1 h2 h3 h4;simp only[List.map_cons,List.map_nil,DataW.agg.injEq,List.cons.injEq,and_true] at hx;subst q0 q1 q2 q3 q4;simp only[DataW.lit.injEq,Lit.int.injEq,true_and] at hx;obtain⟨rfl,rfl,rfl,rfl,rfl⟩:=hx;rw[h0,h1,h2,h3,h4]
theorem tab_of_laid{W:World}{laid:List (String×DataW Unit)}(hl:laid=[("platen/symbol.lengths",Rows.laid_platen_symbol_lengths),("platen/symbol.distances",Rows.laid_platen_symbol_distances)])(h:laidMet prog laid W):Tab W:=by
 subst hl;obtain⟨ps,⟨g0,t0,cs0,f0,p0,q0,hg0,ht0,hv0,hd0,⟨g1,t1,cs1,f1,p1,q1,hg1,ht1,hv1,hd1,_,_⟩,_⟩,_⟩:=h;obtain rfl:=Option.some.inj (zkg.symm.trans hg0);obtain rfl:=Option.some.inj (zjU.symm.trans ht0);obtain rfl:=Option.some.inj (zj8.symm.trans hg1);obtain rfl:=Option.some.inj (zih.symm.trans ht1);have k0:=z7A hd0 rfl;have k1:=z7A hd1 rfl;have c0:=λj=>World.var?_cell hg0 hv0 j
 have c1:=λj=>World.var?_cell hg1 hv1 j
 have each0:∀j,cs0[j]? =cs0.toList[j]? :=λj=>(Array.getElem?_toList).symm
 have each1:∀j,cs1[j]? =cs1.toList[j]? :=λj=>(Array.getElem?_toList).symm
 have z0:=λj=>(c0 j).trans ((each0 j).trans (by rw[k0]))
 have z1:=λj=>(c1 j).trans ((each1 j).trans (by rw[k1]))
 exact⟨z0 0,z0 1,z0 2,z0 3,z0 4,z1 0,z1 1,z1 2,z1 3,z1 4⟩
theorem zhH:∀i,i<28->bt 2 i=lb i:=by decide
theorem ziS:∀i,i<28->lt 3 2 i=ll i:=by decide
theorem zhI:∀i,i<30->bt 1 i=db i:=by decide
theorem ziT:∀i,i<30->lt 1 1 i=dl i:=by decide
theorem lbits_no(x:Int)(w:World)(H:Tab w)(hx:x<257\/285<x):Calls prog 217 #[.int .i64 x] w λe w'=>e=.returned (.tuple #[.int .i64 0,.bool false])/\Below w.heap.size w w':=by
 have HS:=qH (show Calls prog 261 #[.agg #[.int .i64 257,.int .i64 28,.int .i64 3,.int .i64 257,.int .i64 2],.int .i64 x] w λe w'=>e=.returned (.tuple #[.int .i64 0,.bool false])/\Below w.heap.size w w' from z3o 257 28 3 257 2 x w (by decide) (by decide) (by omega));have c0:=H.l0;have c1:=H.l1;have c2:=H.l2;have c3:=H.l3;have c4:=H.l4;have e1:(x==285)=false:=(by rw[qN];omega);clear H hx;go_enter func217,ntmps217;go_wp2_with (go_at_call 261;(with_reducible refine HS.o.mono ?_);rintro e w1 ⟨rfl,b1⟩;have B1:=qH b1;clear b1);exact bodyPost_ret (v:=.tuple #[.int .i64 0,.bool false]) (by simp[results,results217,go_sem]) rfl ⟨rfl,B1.o⟩
theorem lbits_yes(i:Nat)(x:Int)(w:World)(H:Tab w)(hi:i<=28)(hx:x=257+(i:Int)):Calls prog 217 #[.int .i64 x] w λe w'=>e=.returned (.tuple #[.int .i64 (lb i:Nat),.bool true])/\Below w.heap.size w w':=by
 by_cases h:i=28
 · subst h
   obtain rfl:x=285:=by omega
   show Calls prog 217 #[.int .i64 285] w λe w'=>e=.returned (.tuple #[.int .i64 0,.bool true])/\Below w.heap.size w w'
   go_enter func217,ntmps217;go_wp2_with fail;exact bodyPost_ret (v:=.tuple #[.int .i64 0,.bool true]) (by simp[results,results217,go_sem]) rfl ⟨rfl,Below.refl _ _⟩
 · have hi':i<28:=by omega
   have HS:=qH (show Calls prog 261 #[.agg #[.int .i64 257,.int .i64 28,.int .i64 3,.int .i64 257,.int .i64 2],.int .i64 x] w λe w'=>e=.returned (.tuple #[.int .i64 (lb i:Nat),.bool true])/\Below w.heap.size w w' from by rw[<-zhH i hi'];exact z1o 257 28 3 257 2 i x w (by decide) (by decide) (.inr rfl) hi' (by omega));have c0:=H.l0;have c1:=H.l1;have c2:=H.l2;have c3:=H.l3;have c4:=H.l4;have e1:(x==285)=false:=(by rw[qN];omega);generalize hb:lb i=b at HS ⊢;clear H hi hi' hx h hb;go_enter func217,ntmps217;go_wp2_with (go_at_call 261;(with_reducible refine HS.o.mono ?_);rintro e w1 ⟨rfl,b1⟩;have B1:=qH b1;clear b1);exact bodyPost_ret (v:=.tuple #[.int .i64 b,.bool true]) (by simp[results,results217,go_sem]) rfl ⟨rfl,B1.o⟩
theorem dbits_no(x:Int)(w:World)(H:Tab w)(hx:x<0\/29<x):Calls prog 220 #[.int .i64 x] w λe w'=>e=.returned (.tuple #[.int .i64 0,.bool false])/\Below w.heap.size w w':=by
 have HS:=qH (show Calls prog 261 #[.agg #[.int .i64 0,.int .i64 30,.int .i64 1,.int .i64 32768,.int .i64 1],.int .i64 x] w λe w'=>e=.returned (.tuple #[.int .i64 0,.bool false])/\Below w.heap.size w w' from z3o 0 30 1 32768 1 x w (by decide) (by decide) (by omega));have c0:=H.d0;have c1:=H.d1;have c2:=H.d2;have c3:=H.d3;have c4:=H.d4;clear H hx;go_enter func220,ntmps220;go_wp2_with (go_at_call 261;(with_reducible refine HS.o.mono ?_);rintro e w1 ⟨rfl,b1⟩;have B1:=qH b1;clear b1);exact bodyPost_ret (v:=.tuple #[.int .i64 0,.bool false]) (by simp[results,results220,go_sem]) rfl ⟨rfl,B1.o⟩
theorem dbits_yes(i:Nat)(x:Int)(w:World)(H:Tab w)(hi:i<=29)(hx:x=(i:Int)):Calls prog 220 #[.int .i64 x] w λe w'=>e=.returned (.tuple #[.int .i64 (db i:Nat),.bool true])/\Below w.heap.size w w':=by
 have HS:=qH (show Calls prog 261 #[.agg #[.int .i64 0,.int .i64 30,.int .i64 1,.int .i64 32768,.int .i64 1],.int .i64 x] w λe w'=>e=.returned (.tuple #[.int .i64 (db i:Nat),.bool true])/\Below w.heap.size w w' from by rw[<-zhI i (by omega)];exact z1o 0 30 1 32768 1 i x w (by decide) (by decide) (.inl rfl) (by omega) (by omega));have c0:=H.d0;have c1:=H.d1;have c2:=H.d2;have c3:=H.d3;have c4:=H.d4;generalize hb:db i=b at HS ⊢;clear H hi hx hb;go_enter func220,ntmps220;go_wp2_with (go_at_call 261;(with_reducible refine HS.o.mono ?_);rintro e w1 ⟨rfl,b1⟩;have B1:=qH b1;clear b1);exact bodyPost_ret (v:=.tuple #[.int .i64 b,.bool true]) (by simp[results,results220,go_sem]) rfl ⟨rfl,B1.o⟩
theorem z7O{i e:Nat}(hi:i<28)(h:¬e<2^lb i):lof i e=0:=by
 unfold lof;rw[if_neg (λq=>h (Nat.lt_of_lt_of_le q.2 (zk7 (by omega))))]
theorem zh9{i e:Nat}(hi:i<28)(h:e<2^lb i):lof i e=(if ll i+e<=257 then ll i+e else 0)/\(0<lof i e↔ll i+e<=257):=by
 have h3:∀i,i<28->3<=ll i/\(i≠27->ll i+2^lb i<=227):=(by decide);obtain⟨g1,g2⟩:=h3 i hi;have hs:=zfu (i:=i) (e:=e) (by omega);by_cases q:ll i+e<=257
 · have:e<ls i:=by
    refine hs.1 ⟨h,λg=> ?_⟩;obtain⟨rfl,rfl⟩:=g;exact absurd q (by decide)
   unfold lof;rw[if_pos ⟨by omega,this⟩,if_pos q];exact⟨rfl,λ_=>q,λ_=>by omega⟩
 · have:¬e<ls i:=λg=>by
    by_cases e27:i=27
    · subst e27
      have g':e<31:=g;have q':¬227+e<=257:=q;omega
    · have:=g2 e27
      omega
   unfold lof;rw[if_neg (λg=>this g.2),if_neg q];exact⟨rfl,λg=>by omega,λg=>absurd g q⟩
theorem z80{i e:Nat}(h:¬e<2^db i):dof i e=0:=by
 unfold dof;rw[if_neg (λq=>h q.2)]
theorem zhw{i e:Nat}(hi:i<30)(h:e<2^db i):dof i e=(if dl i+e<=32768 then dl i+e else 0)/\(0<dof i e↔dl i+e<=32768):=by
 have h3:∀i,i<30->1<=dl i/\dl i+2^db i<=32769:=(by decide);obtain⟨g1,g2⟩:=h3 i hi;have q:dl i+e<=32768:=(by omega);unfold dof;rw[if_pos ⟨by omega,h⟩,if_pos q];exact⟨rfl,λ_=>q,λ_=>by omega⟩
theorem lengthOf_no(x:Int)(e:Nat)(w:World)(H:Tab w)(hx:x<257\/285<x):Calls prog 218 #[.int .i64 x,.int .u32 e] w λy w'=>y=.returned (.tuple #[.int .i64 0,.bool false])/\Below w.heap.size w w':=by
 have HS:=qH (show Calls prog 262 #[.agg #[.int .i64 257,.int .i64 28,.int .i64 3,.int .i64 257,.int .i64 2],.int .i64 x,.int .u32 e] w λy w'=>y=.returned (.tuple #[.int .i64 0,.bool false])/\Below w.heap.size w w' from z1D 257 28 3 257 2 x e w (by decide) (by decide) (by omega));have c0:=H.l0;have c1:=H.l1;have c2:=H.l2;have c3:=H.l3;have c4:=H.l4;have e1:(x==285)=false:=(by rw[qN];omega);clear H hx;go_enter func218,ntmps218;go_wp2_with (go_at_call 262;(with_reducible refine HS.o.mono ?_);rintro e w1 ⟨rfl,b1⟩;have B1:=qH b1;clear b1);exact bodyPost_ret (v:=.tuple #[.int .i64 0,.bool false]) (by simp[results,results218,go_sem]) rfl ⟨rfl,B1.o⟩
theorem lengthOf_yes(i e:Nat)(x:Int)(w:World)(H:Tab w)(hi:i<=28)(hx:x=257+(i:Int)):Calls prog 218 #[.int .i64 x,.int .u32 e] w λy w'=>y=.returned (.tuple #[.int .i64 (lof i e:Nat),.bool (decide (0<lof i e))])/\Below w.heap.size w w':=by
 by_cases h:i=28
 · subst h
   obtain rfl:x=285:=by omega
   by_cases g:e=0
   · subst g
     show Calls prog 218 #[.int .i64 285,.int .u32 0] w λy w'=>y=.returned (.tuple #[.int .i64 258,.bool true])/\Below w.heap.size w w'
     go_enter func218,ntmps218;go_wp2_with fail;exact bodyPost_ret (v:=.tuple #[.int .i64 258,.bool true]) (by simp[results,results218,go_sem]) rfl ⟨rfl,Below.refl _ _⟩
   · have hv:lof 28 e=0:=by
      unfold lof;rw[if_neg (λq=>by have:e<1:=q.2;omega)]
     rw[hv];show Calls prog 218 #[.int .i64 285,.int .u32 e] w λy w'=>y=.returned (.tuple #[.int .i64 0,.bool false])/\Below w.heap.size w w'
     have HS:=qH (show Calls prog 262 #[.agg #[.int .i64 257,.int .i64 28,.int .i64 3,.int .i64 257,.int .i64 2],(.int .i64 285),.int .u32 e] w λy w'=>y=.returned (.tuple #[.int .i64 0,.bool false])/\Below w.heap.size w w' from z1D 257 28 3 257 2 285 e w (by decide) (by decide) (.inr (by decide)));have c0:=H.l0;have c1:=H.l1;have c2:=H.l2;have c3:=H.l3;have c4:=H.l4;have e1:((e:Int)==0)=false:=(by rw[qN];omega);clear H hi hx g hv;go_enter func218,ntmps218;go_wp2_with (go_at_call 262;(with_reducible refine HS.o.mono ?_);rintro e w1 ⟨rfl,b1⟩;have B1:=qH b1;clear b1);exact bodyPost_ret (v:=.tuple #[.int .i64 0,.bool false]) (by simp[results,results218,go_sem]) rfl ⟨rfl,B1.o⟩
 · have hi':i<28:=by omega
   have c0:=H.l0;have c1:=H.l1;have c2:=H.l2;have c3:=H.l3;have c4:=H.l4;have e1:(x==285)=false:=(by rw[qN];omega);obtain⟨v,b,HS,hv,hb⟩:∃ (v:Nat) (b:Bool),Hd (Calls prog 262 #[.agg #[.int .i64 257,.int .i64 28,.int .i64 3,.int .i64 257,.int .i64 2],.int .i64 x,.int .u32 e] w λy w'=>y=.returned (.tuple #[.int .i64 v,.bool b])/\Below w.heap.size w w')/\lof i e=v/\decide (0<lof i e)=b:=by
    by_cases q:e<2^lb i
    · obtain⟨f1,f2⟩:=zh9 hi' q
      have hq:=z2n 257 28 3 257 2 i e x w (by decide) (by decide) (by decide) (.inr rfl) (by decide) hi' (by omega) (by rw[zhH i hi'];exact q) (by rw[ziS i hi'];have:=ziZ i hi;omega);rw[ziS i hi'] at hq;exact⟨_,_,qH hq,f1,decide_eq_decide.2 f2⟩
    · have hq:=z1N 257 28 3 257 2 i e x w (by decide) (by decide) (.inr rfl) hi' (by omega) (by rw[zhH i hi'];exact q)
      exact⟨0,false,qH hq,z7O hi' q,by rw[z7O hi' q];rfl⟩
   rw[hb,hv];clear H hi hi' hx h hb hv;go_enter func218,ntmps218;go_wp2_with (go_at_call 262;(with_reducible refine HS.o.mono ?_);rintro e w1 ⟨rfl,b1⟩;have B1:=qH b1;clear b1);exact bodyPost_ret (v:=.tuple #[.int .i64 v,.bool b]) (by simp[results,results218,go_sem]) rfl ⟨rfl,B1.o⟩
theorem distOf_no(x:Int)(e:Nat)(w:World)(H:Tab w)(hx:x<0\/29<x):Calls prog 221 #[.int .i64 x,.int .u32 e] w λy w'=>y=.returned (.tuple #[.int .i64 0,.bool false])/\Below w.heap.size w w':=by
 have HS:=qH (show Calls prog 262 #[.agg #[.int .i64 0,.int .i64 30,.int .i64 1,.int .i64 32768,.int .i64 1],.int .i64 x,.int .u32 e] w λy w'=>y=.returned (.tuple #[.int .i64 0,.bool false])/\Below w.heap.size w w' from z1D 0 30 1 32768 1 x e w (by decide) (by decide) (by omega));have c0:=H.d0;have c1:=H.d1;have c2:=H.d2;have c3:=H.d3;have c4:=H.d4;clear H hx;go_enter func221,ntmps221;go_wp2_with (go_at_call 262;(with_reducible refine HS.o.mono ?_);rintro e w1 ⟨rfl,b1⟩;have B1:=qH b1;clear b1);exact bodyPost_ret (v:=.tuple #[.int .i64 0,.bool false]) (by simp[results,results221,go_sem]) rfl ⟨rfl,B1.o⟩
theorem distOf_yes(i e:Nat)(x:Int)(w:World)(H:Tab w)(hi:i<=29)(hx:x=(i:Int)):Calls prog 221 #[.int .i64 x,.int .u32 e] w λy w'=>y=.returned (.tuple #[.int .i64 (dof i e:Nat),.bool (decide (0<dof i e))])/\Below w.heap.size w w':=by
 have hi':i<30:=(by omega);have c0:=H.d0;have c1:=H.d1;have c2:=H.d2;have c3:=H.d3;have c4:=H.d4;obtain⟨v,b,HS,hv,hb⟩:∃ (v:Nat) (b:Bool),Hd (Calls prog 262 #[.agg #[.int .i64 0,.int .i64 30,.int .i64 1,.int .i64 32768,.int .i64 1],.int .i64 x,.int .u32 e] w λy w'=>y=.returned (.tuple #[.int .i64 v,.bool b])/\Below w.heap.size w w')/\dof i e=v/\decide (0<dof i e)=b:=by
  by_cases q:e<2^db i
  · obtain⟨f1,f2⟩:=zhw hi' q
    have hq:=z2n 0 30 1 32768 1 i e x w (by decide) (by decide) (by decide) (.inl rfl) (by decide) hi' (by omega) (by rw[zhI i hi'];exact q) (by rw[ziT i hi'];have:=zjf i hi;omega);rw[ziT i hi'] at hq;exact⟨_,_,qH hq,f1,decide_eq_decide.2 f2⟩
  · have hq:=z1N 0 30 1 32768 1 i e x w (by decide) (by decide) (.inl rfl) hi' (by omega) (by rw[zhI i hi'];exact q)
    exact⟨0,false,qH hq,z80 q,by rw[z80 q];rfl⟩
 rw[hb,hv];clear H hi hi' hx hb hv;go_enter func221,ntmps221;go_wp2_with (go_at_call 262;(with_reducible refine HS.o.mono ?_);rintro e w1 ⟨rfl,b1⟩;have B1:=qH b1;clear b1);exact bodyPost_ret (v:=.tuple #[.int .i64 v,.bool b]) (by simp[results,results221,go_sem]) rfl ⟨rfl,B1.o⟩
