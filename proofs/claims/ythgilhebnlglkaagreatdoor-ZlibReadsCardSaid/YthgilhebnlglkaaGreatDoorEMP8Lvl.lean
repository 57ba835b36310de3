import Derived.Test.YthgilhebnlglkaaGreatDoorEMP8MathC
import Derived.Test.YthgilhebnlglkaaGreatDoorRows
import Derived.OpenShut
import Derived.LaidMore
import Derived.Deep.DeepHandedRow
import Derived.Maps.GroupsBeside
import Derived.WideKeyEntry
import Derived.DeepKeys4
import Derived.Test.YthgilhebnlglkaaGreatDoorEMPkE
import Derived.Lib.LazyBuf
import Derived.RangeFuncBox
import Derived.RangeFuncCalls
import Derived.Shelf.Abstract
import Derived.OwnWalkIn
import Derived.TacticsInMore
import Derived.LoopNIn
import Derived.LoopIn
set_option linter.all false
set_option maxHeartbeats 8000000
set_option maxRecDepth 1000000
open Go.Proofs.Tryz
namespace Go.Proofs.YthgilhebnlglkaaGreatDoor.V.Px
open Go Go.RowKit M
def tbl:List Int:=[0,0,0,4,8,0,8,16,0,16,32,0,8,16,4,16,32,16,64,128,16,128,128,32,512,258,128,2048,258,258]
structure Lvs(w:World):Prop where
 at0:∀i,i<10->w.cell? ⟨1,i*3,none⟩=some (.int .i64 (tbl.getD (i*3) 0))
 at1:∀i,i<10->w.cell? ⟨1,i*3+1,none⟩=some (.int .i64 (tbl.getD (i*3+1) 0))
 at2:∀i,i<10->w.cell? ⟨1,i*3+2,none⟩=some (.int .i64 (tbl.getD (i*3+2) 0))
theorem Lvs.lt{w:World}(h:Lvs w): 1 <w.heap.size:=qB (h.at0 0 (by omega))
theorem Lvs.below{w w':World}{n:Nat}(h:Lvs w)(hb:Below n w w')(hn:w.heap.size<=n):Lvs w':=
 ⟨λi hi=>(hb.cell (p:=⟨1,i*3,none⟩) (Nat.lt_of_lt_of_le h.lt hn)).trans (h.at0 i hi),λi hi=>(hb.cell (p:=⟨1,i*3+1,none⟩) (Nat.lt_of_lt_of_le h.lt hn)).trans (h.at1 i hi),λi hi=>(hb.cell (p:=⟨1,i*3+2,none⟩) (Nat.lt_of_lt_of_le h.lt hn)).trans (h.at2 i hi)⟩
theorem gLev: prog.globalNamed "platen/parse.levels" =some 1 :=by kernel_rfl
theorem tLev:(prog.globals[1]?).map (·.type)=some 275 :=by kernel_rfl
theorem z87: prog.cellsOf 232 =3:=by kernel_rfl
theorem cellsInt: prog.cellsOf 3 =1:=by kernel_rfl
theorem zdA{H:Type}{enc:TypeId×Value->H}{w:World}{base:Nat}{spare:Nat->Bool}{held:Bool}{m:Nat}{cs:List Value}{x:DataW H×List MemPlace}(h:DataW.trod enc prog w base spare held m 232 cs=some x){a b c:Int}(hx:x.1=.agg [.lit (.int .i64 a),.lit (.int .i64 b),.lit (.int .i64 c)]):
 cs=[.int .i64 a,.int .i64 b,.int .i64 c]:=by
 obtain⟨xs,k,_,rfl,hl,hxl,hf⟩:=DataW.trod_struct underlying232 h;rw[z87] at hl
 match cs,hl with
 |[v0,v1,v2],_=>
  match xs,hxl with
  |[y0,y1,y2],_=>
   have e0:DataW.trod enc prog w base spare held k 3 (([v0,v1,v2].drop 0).take (prog.cellsOf 3))=some y0:=hf 0 _ rfl;have e1:DataW.trod enc prog w base spare held k 3 (([v0,v1,v2].drop 1).take (prog.cellsOf 3))=some y1:=hf 1 _ rfl;have e2:DataW.trod enc prog w base spare held k 3 (([v0,v1,v2].drop 2).take (prog.cellsOf 3))=some y2:=hf 2 _ rfl;simp only[cellsInt,List.drop_zero,List.drop_succ_cons,List.take_succ_cons,List.take_zero] at e0 e1 e2;obtain⟨n0,h0,q0,_⟩:=DataW.trod_int underlying3 e0;obtain⟨n1,h1,q1,_⟩:=DataW.trod_int underlying3 e1;obtain⟨n2,h2,q2,_⟩:=DataW.trod_int underlying3 e2;simp only[List.cons.injEq,and_true] at h0 h1 h2;simp only[List.map_cons,List.map_nil,DataW.agg.injEq,List.cons.injEq,and_true] at hx;subst q0 q1 q2;simp only[DataW.lit.injEq,Lit.int.injEq,true_and] at hx;obtain⟨rfl,rfl,rfl⟩:=hx;rw[h0,h1,h2]
theorem lvs_of_laid{W:World}{laid:List (String×DataW Unit)}(hl:laid=[("platen/parse.levels",Rows.laid_platen_parse_levels)])(h:laidMet prog laid W):Lvs W:=by
 subst hl;obtain⟨ps,⟨g0,t0,cs0,f0,p0,q0,hg0,ht0,hv0,hd0,_,_⟩,_⟩:=h;obtain rfl:=Option.some.inj (gLev.symm.trans hg0);obtain rfl:=Option.some.inj (tLev.symm.trans ht0);obtain⟨xs,m,_,hx,hlen,hn,hel⟩:=DataW.trod_array underlying275 hd0;simp only[Prod.mk.injEq] at hx;have hx1:=hx.1;have hxs:xs.map (·.1)=(List.range 10).map (λi=>(DataW.agg [.lit (.int .i64 (tbl.getD (i*3) 0)),.lit (.int .i64 (tbl.getD (i*3+1) 0)),.lit (.int .i64 (tbl.getD (i*3+2) 0))]:DataW Unit)):=by
  unfold Rows.laid_platen_parse_levels at hx1;injection hx1 with hx1
  rw[<-hx1];rfl
 have hcell:=λj=>World.var?_cell hg0 hv0 j
 have each:∀i,i<10->(cs0.toList.drop (i*3)).take 3=[.int .i64 (tbl.getD (i*3) 0),.int .i64 (tbl.getD (i*3+1) 0),.int .i64 (tbl.getD (i*3+2) 0)]:=λi hi=>by
  have h1:=hel i hi;rw[z87] at h1;have hy:xs[i]? =some xs[i]:=qE (by omega);rw[hy] at h1;refine zdA h1 ?_
  have h2:(xs.map (·.1))[i]? =some (xs[i]).1:=(by rw[List.getElem?_map,hy];rfl);rw[hxs,List.getElem?_map,List.getElem?_range hi] at h2;injection h2 with h2
  exact h2.symm
 have cell:∀i k,i<10->k<3->cs0[i*3+k]? =[Value.int .i64 (tbl.getD (i*3) 0),.int .i64 (tbl.getD (i*3+1) 0),.int .i64 (tbl.getD (i*3+2) 0)][k]? :=λi k hi hk=>by
  rw[<-each i hi,List.getElem?_take,if_pos hk,List.getElem?_drop,Array.getElem?_toList]
 exact⟨λi hi=>by have:=hcell (i*3);rw[show i*3=i*3+0 from rfl,cell i 0 hi (by omega)] at this;exact this,λi hi=>by have:=hcell (i*3+1);rw[cell i 1 hi (by omega)] at this;exact this,λi hi=>by have:=hcell (i*3+2);rw[cell i 2 hi (by omega)] at this;exact this⟩
theorem ziQ(i:Nat)(hi:i<10):tbl.getD (i*3) 0=((Q.lv i).d:Int)/\tbl.getD (i*3+1) 0=((Q.lv i).n:Int)/\tbl.getD (i*3+2) 0=((Q.lv i).z:Int):=by
 have h9:i=0\/i=1\/i=2\/i=3\/i=4\/i=5\/i=6\/i=7\/i=8\/i=9:=(by omega);rcases h9 with rfl|rfl|rfl|rfl|rfl|rfl|rfl|rfl|rfl|rfl<;>exact⟨rfl,rfl,rfl⟩
theorem zbe(i:Nat)(w:World)(hi:i<=9)(H:Lvs w):
 Calls prog 153 #[.int .i64 i] w λe w'=>e=.returned (.tuple #[.int .i64 (Q.lv i).d,.int .i64 (Q.lv i).n,.int .i64 (Q.lv i).z,.bool true])/\Below w.heap.size w w':=by
 have c0:=H.at0 i (by omega);have c1:=H.at1 i (by omega);have c2:=H.at2 i (by omega);obtain⟨t0,t1,t2⟩:=ziQ i (by omega);rw[t0] at c0;rw[t1] at c1;rw[t2] at c2;obtain⟨d,hd⟩:∃d:Int,((Q.lv i).d:Int)=d:=⟨_,rfl⟩
 obtain⟨n,hn⟩:∃d:Int,((Q.lv i).n:Int)=d:=⟨_,rfl⟩
 obtain⟨z,hz⟩:∃d:Int,((Q.lv i).z:Int)=d:=⟨_,rfl⟩
 rw[hd,hn,hz];rw[hd] at c0;rw[hn] at c1;rw[hz] at c2;have d0:decide ((i:Int)<0)=false:=qF (by omega);have d9:decide (10<=(i:Int))=false:=qF (by omega);clear hd hn hz t0 t1 t2 H;go_enter func153,ntmps153;go_wp2_with fail
 go_quiet (fail)
 go_wp2_with fail;exact bodyPost_ret (v:=.tuple #[.int .i64 d,.int .i64 n,.int .i64 z,.bool true]) (by simp[results,results153,go_sem]) rfl ⟨rfl,z0b (qL) _⟩
theorem ziL(w:World):Calls prog 155 #[.string ⟨#[]⟩] w λe w'=>(∃F,e=.returned (.pointer (some ⟨F,0,none⟩)))/\Below w.heap.size w w':=by
 have hmm:= @run_makeMap prog;go_enter func155,ntmps155;go_wp2;go_ret;exact⟨⟨_,rfl⟩,(qL).alloc (by simp) _⟩
theorem zic(d n z:Int)(F:Nat)(w:World):Calls prog 156 #[.agg #[.int .i64 d,.int .i64 n,.int .i64 z,.pointer (some ⟨F,0,none⟩)],.string ⟨#[]⟩,.int .i64 0] w λe w'=>e=.returned (.slice none 0 0)/\Below w.heap.size w w':=by
 have hb:=qH ((Below.refl w.heap.size w).alloc qR (.cells #[.int .i64 d,.int .i64 n,.int .i64 z,.pointer (some ⟨F,0,none⟩)] 236));go_enter func156,ntmps156;go_wp2_with fail
 go_loopw [2,7] (λx v wr=>x=.int .i64 0/\v=.slice none 0 0/\Below w.heap.size w wr) (λ_ _ _=>0)
 case atStart=>exact⟨rfl,rfl,hb.o⟩
 case round=>
  obtain⟨rfl,rfl,hB⟩:=hrel;have HB:=qH hB;clear hB;go_wp2_with fail;go_ret;exact⟨rfl,HB.o⟩
theorem tokens_mt(W:World)(H:Lvs W):Calls prog 111 #[.string ⟨#[]⟩,.string ⟨#[]⟩,.int .i64 6] W λe w'=>e=.returned (.tuple #[.slice none 0 0,.int .i64 0])/\Below W.heap.size W w':=by
 have HL:=qH (zbe 6 W (by decide) H);generalize hr:Q.lv 6=r at HL;have HN:=qH ziL;have HTo:=qH (λF w=>zic r.d r.n r.z F w);clear H hr;go_enter func111,ntmps111
 go_wp2_with (first
  |(go_at_call 153;(refine HL.o.mono ?_);rintro e w1 ⟨rfl,b1⟩;have B1:=qH b1;clear b1)
  |(go_at_call 155;(refine(HN.o _).mono ?_);rintro e w2 ⟨⟨F,rfl⟩,b2⟩;have B2:=qbt B1 b2;clear b2)
  |(go_at_call 156;(refine(HTo.o _ _).mono ?_);rintro e w3 ⟨rfl,b3⟩;have B3:=qH ((B2.o.alloc B2.o.size _).trans (b3.mono (B2.o.alloc B2.o.size _).size));clear b3))
 go_ret2;exact⟨rfl,B3.o⟩
end Go.Proofs.YthgilhebnlglkaaGreatDoor.V.Px
namespace Go.Proofs.YthgilhebnlglkaaGreatDoor.V.Px
open Go Go.RowKit M
open Q (lits lits_length)
def cutd(d:ByteArray):ByteArray:=d.extract (d.size - 32768) d.size
theorem cutd_all{d:ByteArray}(h:d.size<=32768):cutd d=d:=by
 unfold cutd;rw[show d.size - 32768=0 by omega];exact ByteArray.extract_zero_size
