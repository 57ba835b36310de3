/- Texts of one place, one behind the other: YsA, YsB, YsD, YsE. -/
import Derived.Test.YtacelhaidcmbcaaGreatDoorTMRsA
import Derived.Deep.RegionHeld3
import Derived.LoopNIn
import Derived.Test.YtacelhaidcmbcaaGreatDoorRows
import Derived.OpenShut
import Derived.LaidMore
import Derived.Deep.DeepHandedRow
set_option maxHeartbeats 8000000
set_option maxRecDepth 1000000
set_option linter.unusedVariables false
set_option linter.unusedSimpArgs false
namespace Go.Proofs.YtacelhaidcmbcaaGreatDoor.Y
open Go.Lib (hid)
open Go Go.RowKit M
def bt(g p:Nat):Nat:=p/2^g - 1
def lt(l g p:Nat):Nat:=l+(p - bt g p*2^g)*2^bt g p
theorem zhM{g:Nat}(h:g=1∨g=2):(2:Int)^g=((2^g:Nat):Int):=by rw[Int.natCast_pow];rfl
theorem zjc{g p:Nat}(hg:g=1∨g=2)(hp:p<32):bt g p≤15:=by
 rcases hg with rfl|rfl<;>(unfold bt;omega)
theorem ziq{g p:Nat}(hg:g=1∨g=2)(hp:p<32):bt g p*2^g≤p:=by
 rcases hg with rfl|rfl<;>(unfold bt;omega)
theorem z4q(a c l m g p:Nat)(w:World)(hg:g=1∨g=2)(hp:p<32):Calls Tryz.prog 186 #[.agg #[.int .i64 a,.int .i64 c,.int .i64 l,.int .i64 m,.int .i64 g],.int .i64 p] w fun e w'=>e=.returned (.int .i64 (bt g p:Nat))∧Below w.heap.size w w':=by
 have d0:decide ((g:Int)<0)=false:=qF (by omega);have d1:((g:Int)<64):=by omega
 obtain⟨q,hq⟩:∃q,p/2^g=q:=⟨_,rfl⟩
 have hb:bt g p=q - 1:=by unfold bt;rw[hq]
 have h1:(p:Int) /2^g=(q:Int):=by rw[zhM hg,←Int.natCast_ediv,hq]
 have h2:q≤32:=by rw[←hq];exact qK (Nat.div_le_self _ _) (by omega)
 have h3:wrap64 ((q:Int) - 1)=(q:Int) - 1:=by exact IntWalk.wrap64_in _ ⟨by omega,by omega⟩
 rw[hb];clear hb hq;go_enter Tryz.func186,Tryz.ntmps186;go_wp2_with fail
 · go_ret
   exact⟨by simp;omega,qL⟩
 · go_ret
   exact⟨by simp;omega,qL⟩
theorem z3d(a c l m g p:Nat)(w:World)(hl:l≤3)(hg:g=1∨g=2)(hp:p<32):Calls Tryz.prog 184 #[.agg #[.int .i64 a,.int .i64 c,.int .i64 l,.int .i64 m,.int .i64 g],.int .i64 p] w fun e w'=>e=.returned (.int .i64 (lt l g p:Nat))∧Below w.heap.size w w':=by
 have d0:decide ((g:Int)<0)=false:=qF (by omega);have d1:((g:Int)<64):=by omega
 have HB:=hid (fun w=>z4q a c l m g p w hg hp);have hb:=zjc hg hp;have hm:=ziq hg hp;obtain⟨b,hbe⟩:∃b,bt g p=b:=⟨_,rfl⟩
 have hv:lt l g p=l+(p - b*2^g)*2^b:=by unfold lt;rw[hbe]
 rw[hv];rw[hbe] at HB hb hm;obtain⟨k,hk⟩:∃k,b*2^g=k:=⟨_,rfl⟩
 rw[hk] at hm ⊢;have h1:wrap64 ((b:Int)*2^g)=(k:Int):=by rw[zhM hg,←Int.natCast_mul,hk];exact IntWalk.wrap64_in _ ⟨by omega,by omega⟩
 have h2:wrap64 ((p:Int) - k)=((p - k:Nat):Int):=by rw[Int.ofNat_sub hm];exact IntWalk.wrap64_in _ ⟨by omega,by omega⟩
 have e2:(2:Int)^b=((2^b:Nat):Int):=by rw[Int.natCast_pow];rfl
 have hp2:2^b≤32768:=qK (Nat.pow_le_pow_right (by decide) hb) (by decide);have hp3:p - k≤31:=by omega
 have hlt:(p - k)*2^b≤31*32768:=Nat.mul_le_mul hp3 hp2;obtain⟨z,hz⟩:∃z,(p - k)*2^b=z:=⟨_,rfl⟩
 rw[hz] at hlt ⊢;have h3:wrap64 (((p - k:Nat):Int)*2^b)=(z:Int):=by rw[e2,←Int.natCast_mul,hz];exact IntWalk.wrap64_in _ ⟨by omega,by omega⟩
 have h4:wrap64 ((l:Int)+z)=((l+z:Nat):Int):=by clear h1 h2 h3 e2 hz;rw[Int.natCast_add];exact IntWalk.wrap64_in _ ⟨by omega,by omega⟩
 have h5:wrap64 ((l:Int)+wrap64 (wrap64 ((p:Int) - wrap64 ((b:Int)*2^g))*2^b))=((l+z:Nat):Int):=by rw[h1,h2,h3,h4]
 have HH:=hid h5;have d2:decide ((b:Int)<0)=false:=qF (by omega);have d3:((b:Int)<64):=by omega
 clear hv hbe hm hk h1 h2 e2 hlt hz h3 h4 h5 hp2 hp3;go_enter Tryz.func184,Tryz.ntmps184;go_wp2_with (go_at_call 186;(with_reducible refine(HB.out _).mono ?_);rintro e w1 ⟨rfl,b1⟩;have hb0:=(b1.block w.heap.size (by simp)).trans (heap_alloc_new w _);have k2:w1.cell? ⟨w.heap.size,2,none⟩=some (.int .i64 l):=(by rw[cell_of_row w1 _ _ _ _ _ hb0];rfl);have k4:w1.cell? ⟨w.heap.size,4,none⟩=some (.int .i64 g):=(by rw[cell_of_row w1 _ _ _ _ _ hb0];rfl);have B1:=hid b1;clear b1 hb0)
 go_quiet (fail)
 go_wp2_with fail;go_ret;exact⟨by rw[←HH.out];rfl,z00 ((qL).trans (B1.out.mono (by simp))) _⟩
structure Bx(w:World)(br bn a c l m g n:Nat):Prop where
 c0:w.cell? ⟨br,0,none⟩=some (.int .i64 a)
 c1:w.cell? ⟨br,1,none⟩=some (.int .i64 c)
 c2:w.cell? ⟨br,2,none⟩=some (.int .i64 l)
 c3:w.cell? ⟨br,3,none⟩=some (.int .i64 m)
 c4:w.cell? ⟨br,4,none⟩=some (.int .i64 g)
 num:w.cell? ⟨bn,0,none⟩=some (.int .i64 n)
section
variable {w w':World} {br bn a c l m g n:Nat}
theorem Bx.below(h:Bx w br bn a c l m g n){B:Nat}(hb:Below B w w')(hr:br<B)(hn:bn<B):Bx w' br bn a c l m g n:=
 ⟨(hb.cell hr).trans h.c0,(hb.cell hr).trans h.c1,(hb.cell hr).trans h.c2,(hb.cell hr).trans h.c3,(hb.cell hr).trans h.c4,(hb.cell hn).trans h.num⟩
theorem Bx.lt(h:Bx w br bn a c l m g n):br<w.heap.size∧bn<w.heap.size:=⟨qB h.c0,qB h.num⟩
end
theorem z9y(br bn a c l m g n p:Nat)(w:World)(hl:l≤3)(hg:g=1∨g=2)(hp:p<32)(H:Bx w br bn a c l m g n):Calls Tryz.prog 183 #[.int .i64 p,.pointer (some ⟨br,0,none⟩),.pointer (some ⟨bn,0,none⟩)] w fun e w'=>e=.returned (.bool (decide (n<lt l g p)))∧Below w.heap.size w w':=by
 have HB:=hid (fun w=>z3d a c l m g p w hl hg hp);obtain⟨c0,c1,c2,c3,c4,c5⟩:=H;have hlt:=qB c5;obtain⟨v,hv⟩:∃v,lt l g p=v:=⟨_,rfl⟩
 rw[hv] at HB ⊢;clear hv;go_enter Tryz.func183,Tryz.ntmps183;go_wp2_with fail
 go_region_with (go_at_call 184;(with_reducible refine(HB.out _).mono ?_);rintro e w1 ⟨rfl,b1⟩;have k5:=(b1.cell (p:=⟨bn,0,none⟩) (by simpa using hlt)).trans c5;have B1:=hid b1;clear b1)
 all_goals
  go_wp2_with fail;go_ret;exact⟨rfl,(Below.refl _ _).drew.trans (B1.out.mono qR)⟩
structure Fnd(L:Nat→Nat)(c n i:Nat):Prop where
 le:i≤c
 lo:i=0∨L (i - 1)≤n
 hi:i=c∨n<L i
def zh6(L:Nat→Nat)(c n:Nat)(W:World)(e:Ending)(w':World):Prop:=∃i:Nat,e=.returned (.int .i64 i)∧Fnd L c n i∧Below W.heap.size W w'
theorem z8U(br bn a c l m g n:Nat)(W:World)(hl:l≤3)(hg:g=1∨g=2)(hc:c≤32)(H:Bx W br bn a c l m g n):
 Calls Tryz.prog 185 #[.int .i64 c,.func (.func 183) #[] #[.pointer (some ⟨br,0,none⟩),.pointer (some ⟨bn,0,none⟩)]] W (zh6 (lt l g) c n W):=by
 have HC:=hid (fun(w:World) (p:Nat) (hp:p<32) (h:Bx w br bn a c l m g n)=>z9y br bn a c l m g n p w hl hg hp h);have HH:=hid H;have HL:=hid H.lt;clear H hl hg;go_enter Tryz.func185,Tryz.ntmps185;go_wp2_with fail
 go_loopw [5,6] (fun i j w=> ∃a d:Nat,i=.int .i64 a∧j=.int .i64 d∧a≤d∧d≤c∧(a=0∨lt l g (a - 1)≤n)∧(d=c∨n<lt l g d)∧Below W.heap.size W w) (fun i j _=>((intOf j) - (intOf i)).toNat)
 case atStart=>exact⟨0,c,rfl,rfl,by omega,qR,.inl rfl,.inl rfl,Below.refl _ _⟩
 case round=>
  obtain⟨a,d,rfl,rfl,h1,h2,h3,h4,hb⟩:=hrel;have H3:=hid h3;have H4:=hid h4;have HB:=hid hb;clear h3 h4 hb;by_cases hlt:a<d
  · obtain⟨h,hh⟩:∃h,(a+d) /2=h:=⟨_,rfl⟩
    have hh1:a≤h:=by omega
    have hh2:h<d:=by omega
    have hh3:h<32:=by omega
    have e1:((a:Int)+(d:Int)) /2=(h:Int):=by omega
    clear hh;obtain⟨v,hv⟩:∃v,lt l g h=v:=⟨_,rfl⟩
    have HV:=hid hv;have HB1:=hid (HC.out _ h hh3 (HH.out.below HB.out HL.out.1 HL.out.2));rw[hv] at HB1;clear hv;go_wp2_with (go_at_call 183;(with_reducible refine HB1.out.mono ?_);rintro e w1 ⟨rfl,b1⟩;have B1:=hid (HB.out.trans (b1.mono HB.out.size));clear b1)
    · rename_i q
      have q':v≤n:=by simpa using q
      exact⟨⟨h+1,d,by go_num,rfl,by omega,by omega,.inr (by rw[Nat.add_sub_cancel,HV.out];exact q'),H4.out,B1.out⟩,by simp only[intOf];omega⟩
    · rename_i q
      have q':n<v:=by simpa using q
      exact⟨⟨a,h,rfl,rfl,by omega,by omega,H3.out,.inr (by rw[HV.out];exact q'),B1.out⟩,by simp only[intOf];omega⟩
  · obtain rfl:a=d:=by omega
    go_wp2_with fail;go_ret;exact⟨a,rfl,⟨h2,H3.out,H4.out⟩,HB.out⟩
structure Plc(L:Nat→Nat)(c n i:Nat):Prop where
 lt:i<c
 lo:L i≤n
 hi:i+1=c∨n<L (i+1)
theorem Fnd.plc{L:Nat→Nat}{c n i:Nat}(h:Fnd L c n i)(hc:0<c)(h0:L 0≤n):∃j,i=j+1∧Plc L c n j:=by
 match i,h with
 |0,h=>
  rcases h.hi with e|e
  · omega
  · omega
 |j+1,h=>
  refine⟨j,rfl,⟨by have:=h.le;omega,?_,h.hi⟩⟩;rcases h.lo with e|e
  · omega
  · exact e
theorem z2s(a c l m g n:Nat)(W:World)(ha:a≤257)(hc0:0<c)(hc:c≤32)(hl:l≤3)(hg:g=1∨g=2)(hm:m≤32768)(hn:l≤n∧n≤m):
 Calls Tryz.prog 175 #[.agg #[.int .i64 a,.int .i64 c,.int .i64 l,.int .i64 m,.int .i64 g],.int .i64 n] W fun e w'=> ∃i,Plc (lt l g) c n i∧e=.returned (.tuple #[.int .i64 (a+i:Nat),.int .u32 (n - lt l g i:Nat),.int .i64 (bt g i:Nat),.bool true])∧Below W.heap.size W w':=by
 obtain⟨hn1,hn2⟩:=hn;have d0:decide ((n:Int)<(l:Int))=false:=qF (by omega);have d0':decide (n<l)=false:=qF (by omega);have d1:decide ((m:Int)<(n:Int))=false:=qF (by omega);have d1':decide (m<n)=false:=qF (by omega);have hl0:lt l g 0≤n:=by unfold lt;simp;exact hn1
 have HS:=hid (fun(br bn:Nat) (W:World) (h:Bx W br bn a c l m g n)=>z8U br bn a c l m g n W hl hg hc h);have HLA:=hid (fun(p:Nat) (w:World) (hp:p<32)=>z3d a c l m g p w hl hg hp);have HBA:=hid (fun(p:Nat) (w:World) (hp:p<32)=>z4q a c l m g p w hg hp);have HL0:=hid hl0;have HG:=hid hg;clear hl0 hg;go_enter Tryz.func175,Tryz.ntmps175;go_wp2_with (go_at_call 185;(with_reducible refine(HS.out W.heap.size (W.heap.size+1) _ ⟨by simp,by simp,by simp,by simp,by simp,by simp⟩).mono ?_);rintro e w1 ⟨i0,rfl,hf,b1⟩;obtain⟨i,rfl,hp⟩:=hf.plc hc0 HL0.out;have hi:=hp.lt;have hi32:i<32:=(by omega);clear hf);have hb1:Below W.heap.size W w1:=((qL).alloc (by simp) _).trans (b1.mono (by simp;omega));have HX:Bx w1 W.heap.size (W.heap.size+1) a c l m g n:=(show Bx ((W.alloc (.cells #[.int .i64 a,.int .i64 c,.int .i64 l,.int .i64 m,.int .i64 g] 271)).alloc (.cells #[.int .i64 n] 3)) W.heap.size (W.heap.size+1) a c l m g n from⟨by simp,by simp,by simp,by simp,by simp,by simp⟩).below b1 (by simp;omega) (by simp);obtain⟨e0,e1,e2,e3,e4,e5⟩:=HX;have B1:=hid hb1;have HP:=hid hp;obtain⟨u,hu⟩:∃u,lt l g i=u:=⟨_,rfl⟩
 obtain⟨z,hz⟩:∃z,bt g i=z:=⟨_,rfl⟩
 have LA:=hid (fun w=>HLA.out i w hi32);have BA:=hid (fun w=>HBA.out i w hi32);rw[hu] at LA;rw[hz] at BA;have hun:u≤n:=by rw[←hu];exact hp.lo
 have v1:IntKind.i64.wrap ((a:Int)+i)=((a+i:Nat):Int):=by rw[IntKind.wrap_i64];omega
 have v2:IntKind.i64.wrap ((n:Int) - u)=((n - u:Nat):Int):=by rw[IntKind.wrap_i64];omega
 have v3:IntKind.u32.wrap ((n - u:Nat):Int)=((n - u:Nat):Int):=by rw[IntKind.wrap_u32];omega
 have HU:=hid hu;have HZ:=hid hz;have V1:=hid v1;have V2:=hid v2;have V3:=hid v3;clear hb1 hp hu hz b1 HS HLA HBA HL0 v1 v2 v3
 go_region_held3 (fun w'=>w'.cell? ⟨W.heap.size,0,none⟩=some (.int .i64 a)∧w'.cell? ⟨W.heap.size,1,none⟩=some (.int .i64 c)∧w'.cell? ⟨W.heap.size,2,none⟩=some (.int .i64 l)∧w'.cell? ⟨W.heap.size,3,none⟩=some (.int .i64 m)∧w'.cell? ⟨W.heap.size,4,none⟩=some (.int .i64 g)∧w'.cell? ⟨W.heap.size+1,0,none⟩=some (.int .i64 n)) (first|exact⟨g0,g1,g2,g3,g4,g5⟩|exact⟨f0,f1,f2,f3,f4,f5⟩|exact⟨e0,e1,e2,e3,e4,e5⟩) (first
  |(go_at_call 184;(with_reducible refine(LA.out _).mono ?_);rintro e w2 ⟨rfl,b2⟩;have f0:=(b2.cell (qB e0)).trans e0;have f1:=(b2.cell (qB e1)).trans e1;have f2:=(b2.cell (qB e2)).trans e2;have f3:=(b2.cell (qB e3)).trans e3;have f4:=(b2.cell (qB e4)).trans e4;have f5:=(b2.cell (qB e5)).trans e5;have B2:=hid (B1.out.drew.trans (b2.mono B1.out.size));clear b2)
  |(go_at_call 186;(with_reducible refine(BA.out _).mono ?_);rintro e w3 ⟨rfl,b3⟩;have g0:=(b3.cell (qB f0)).trans f0;have g1:=(b3.cell (qB f1)).trans f1;have g2:=(b3.cell (qB f2)).trans f2;have g3:=(b3.cell (qB f3)).trans f3;have g4:=(b3.cell (qB f4)).trans f4;have g5:=(b3.cell (qB f5)).trans f5;have B3:=hid (B2.out.trans (b3.mono B2.out.size));clear b3))
 go_wp2_with fail;refine bodyPost_ret (v:=.tuple #[.int .i64 (IntKind.i64.wrap ((a:Int)+i)),.int .u32 (IntKind.u32.wrap (IntKind.i64.wrap ((n:Int) - u))),.int .i64 z,.bool true]) (by simp[results,Tryz.results175,go_sem]) rfl ⟨i,HP.out,?_,B3.out⟩;rw[V1.out,V2.out,V3.out,HU.out,HZ.out]
end Go.Proofs.YtacelhaidcmbcaaGreatDoor.Y
namespace Go.Proofs.YtacelhaidcmbcaaGreatDoor.Y
open Go Go.RowKit M
structure Tab(w:World):Prop where
 l0:w.cell? ⟨2,0,none⟩=some (.int .i64 257)
 l1:w.cell? ⟨2,1,none⟩=some (.int .i64 28)
 l2:w.cell? ⟨2,2,none⟩=some (.int .i64 3)
 l3:w.cell? ⟨2,3,none⟩=some (.int .i64 257)
 l4:w.cell? ⟨2,4,none⟩=some (.int .i64 2)
 d0:w.cell? ⟨3,0,none⟩=some (.int .i64 0)
 d1:w.cell? ⟨3,1,none⟩=some (.int .i64 30)
 d2:w.cell? ⟨3,2,none⟩=some (.int .i64 1)
 d3:w.cell? ⟨3,3,none⟩=some (.int .i64 32768)
 d4:w.cell? ⟨3,4,none⟩=some (.int .i64 1)
theorem Tab.below{w w':World}{n:Nat}(h:Tab w)(hb:Below n w w')(hn:w.heap.size≤n):Tab w':=by
 have hl:∀ {p v},w.cell? p=some v→w'.cell? p=some v:=fun {p v} h=>(hb.cell (Nat.lt_of_lt_of_le (qB h) hn)).trans h
 exact⟨hl h.l0,hl h.l1,hl h.l2,hl h.l3,hl h.l4,hl h.d0,hl h.d1,hl h.d2,hl h.d3,hl h.d4⟩
theorem zj9: Tryz.prog.globalNamed "platen/symbol.lengths" =some 2 :=by kernel_rfl
theorem zif: Tryz.prog.globalNamed "platen/symbol.distances" =some 3 :=by kernel_rfl
theorem ziN:(Tryz.prog.globals[2]?).map (·.type)=some 271 :=by kernel_rfl
theorem zhv:(Tryz.prog.globals[3]?).map (·.type)=some 271 :=by kernel_rfl
theorem ze5: Tryz.prog.cellsOf 271 =5:=by kernel_rfl
theorem cellsInt: Tryz.prog.cellsOf 3 =1:=by kernel_rfl
theorem z7S{H:Type}{enc:TypeId×Value→H}{w:World}{base:Nat}{spare:Nat→Bool}{held:Bool}{m:Nat}{cs:List Value}{x:DataW H×List MemPlace}(h:DataW.trod enc Tryz.prog w base spare held m 271 cs=some x){a b c d f:Int}(hx:x.1=.agg [.lit (.int .i64 a),.lit (.int .i64 b),.lit (.int .i64 c),.lit (.int .i64 d),.lit (.int .i64 f)]):
 cs=[.int .i64 a,.int .i64 b,.int .i64 c,.int .i64 d,.int .i64 f]:=by
 obtain⟨xs,k,_,rfl,hl,hxl,hf⟩:=DataW.trod_struct Tryz.underlying271 h;rw[ze5] at hl
 match cs,hl with
 |[v0,v1,v2,v3,v4],_=>
  match xs,hxl with
  |[y0,y1,y2,y3,y4],_=>
   have e0:DataW.trod enc Tryz.prog w base spare held k 3 (([v0,v1,v2,v3,v4].drop 0).take (Tryz.prog.cellsOf 3))=some y0:=hf 0 _ rfl;have e1:DataW.trod enc Tryz.prog w base spare held k 3 (([v0,v1,v2,v3,v4].drop 1).take (Tryz.prog.cellsOf 3))=some y1:=hf 1 _ rfl;have e2:DataW.trod enc Tryz.prog w base spare held k 3 (([v0,v1,v2,v3,v4].drop 2).take (Tryz.prog.cellsOf 3))=some y2:=hf 2 _ rfl;have e3:DataW.trod enc Tryz.prog w base spare held k 3 (([v0,v1,v2,v3,v4].drop 3).take (Tryz.prog.cellsOf 3))=some y3:=hf 3 _ rfl;have e4:DataW.trod enc Tryz.prog w base spare held k 3 (([v0,v1,v2,v3,v4].drop 4).take (Tryz.prog.cellsOf 3))=some y4:=hf 4 _ rfl;simp only[cellsInt,List.drop_zero,List.drop_succ_cons,List.take_succ_cons,List.take_zero] at e0 e1 e2 e3 e4;obtain⟨n0,h0,q0,_⟩:=DataW.trod_int Tryz.underlying3 e0;obtain⟨n1,h1,q1,_⟩:=DataW.trod_int Tryz.underlying3 e1;obtain⟨n2,h2,q2,_⟩:=DataW.trod_int Tryz.underlying3 e2;obtain⟨n3,h3,q3,_⟩:=DataW.trod_int Tryz.underlying3 e3;obtain⟨n4,h4,q4,_⟩:=DataW.trod_int Tryz.underlying3 e4;simp only[List.cons.injEq,and_true] at h0 h1 h2 h3 h4;simp only[List.map_cons,List.map_nil,DataW.agg.injEq,List.cons.injEq,and_true] at hx;subst q0 q1 q2 q3 q4;simp only[DataW.lit.injEq,Lit.int.injEq,true_and] at hx;obtain⟨rfl,rfl,rfl,rfl,rfl⟩:=hx;rw[h0,h1,h2,h3,h4]
theorem tab_of_laid{W:World}{laid:List (String×DataW Unit)}(hl:laid=[("platen/symbol.lengths",Rows.laid_platen_symbol_lengths),("platen/symbol.distances",Rows.laid_platen_symbol_distances)])(h:laidMet Tryz.prog laid W):Tab W:=by
 subst hl;obtain⟨ps,⟨g0,t0,cs0,f0,p0,q0,hg0,ht0,hv0,hd0,⟨g1,t1,cs1,f1,p1,q1,hg1,ht1,hv1,hd1,_,_⟩,_⟩,_⟩:=h;obtain rfl:=Option.some.inj (zj9.symm.trans hg0);obtain rfl:=Option.some.inj (ziN.symm.trans ht0);obtain rfl:=Option.some.inj (zif.symm.trans hg1);obtain rfl:=Option.some.inj (zhv.symm.trans ht1);have k0:=z7S hd0 rfl;have k1:=z7S hd1 rfl;have c0:=fun j=>World.var?_cell hg0 hv0 j
 have c1:=fun j=>World.var?_cell hg1 hv1 j
 have each0:∀j,cs0[j]? =cs0.toList[j]? :=fun j=>(Array.getElem?_toList).symm
 have each1:∀j,cs1[j]? =cs1.toList[j]? :=fun j=>(Array.getElem?_toList).symm
 have z0:=fun j=>(c0 j).trans ((each0 j).trans (by rw[k0]))
 have z1:=fun j=>(c1 j).trans ((each1 j).trans (by rw[k1]))
 exact⟨z0 0,z0 1,z0 2,z0 3,z0 4,z1 0,z1 1,z1 2,z1 3,z1 4⟩
end Go.Proofs.YtacelhaidcmbcaaGreatDoor.Y
namespace Go.Proofs.YtacelhaidcmbcaaGreatDoor.Y
open Go.Lib (hid)
open Go Go.RowKit M
theorem zjd:∀i,i<28→bt 2 i=lb i:=by decide
theorem zi1:∀i,i<28→lt 3 2 i=ll i:=by decide
theorem zje:∀i,i<30→bt 1 i=db i:=by decide
theorem zi2:∀i,i<30→lt 1 1 i=dl i:=by decide
theorem z6F{n i:Nat}(hn:n≤257)(h:Plc (lt 3 2) 28 n i):lsy n=i∧lex n=n - lt 3 2 i∧lb (lsy n)=bt 2 i:=by
 have hi:=h.lt;have hl:=zi1 i hi;have h1:ll i≤n:=by rw[←hl];exact h.lo
 have h2:n<ll i+ls i:=by
  rcases h.hi with e|e
  · obtain rfl:i=27:=by omega
    show n<227+31
    omega
  · by_cases q:i+1<28
    · rw[zi1 _ q,zbd.next i (by omega)] at e;exact e
    · obtain rfl:i=27:=by omega
      show n<227+31
      omega
 have hu:=zdK (n:=n) (i:=i) (by omega) h1 h2;exact⟨hu,by unfold lex;rw[hu,hl],by rw[hu,zjd i hi]⟩
theorem z4M{n i:Nat}(hn:n≤32768)(h:Plc (lt 1 1) 30 n i):dsy n=i∧dex n=n - lt 1 1 i∧db (dsy n)=bt 1 i:=by
 have hi:=h.lt;have hl:=zi2 i hi;have h1:dl i≤n:=by rw[←hl];exact h.lo
 have h2:n<dl i+ds i:=by
  rcases h.hi with e|e
  · obtain rfl:i=29:=by omega
    show n<24577+8192
    omega
  · by_cases q:i+1<30
    · rw[zi2 _ q,zbK.next i (by omega)] at e;exact e
    · obtain rfl:i=29:=by omega
      show n<24577+8192
      omega
 have hu:=zbL (n:=n) (i:=i) (by omega) h1 h2;exact⟨hu,by unfold dex;rw[hu,hl],by rw[hu,zje i hi]⟩
theorem length_yes(n:Nat)(w:World)(H:Tab w)(hn:3≤n∧n≤258):Calls Tryz.prog 157 #[.int .i64 n] w fun e w'=>e=.returned (.tuple #[.int .i64 (257+lsy n:Nat),.int .u32 (lex n:Nat),.int .i64 (lb (lsy n):Nat),.bool true])∧Below w.heap.size w w':=by
 by_cases h:n=258
 · subst h
   show Calls Tryz.prog 157 #[.int .i64 258] w fun e w'=>e=.returned (.tuple #[.int .i64 285,.int .u32 0,.int .i64 0,.bool true])∧Below w.heap.size w w'
   go_enter Tryz.func157,Tryz.ntmps157;go_wp2_with fail;exact bodyPost_ret (v:=.tuple #[.int .i64 285,.int .u32 0,.int .i64 0,.bool true]) (by simp[results,Tryz.results157,go_sem]) rfl ⟨rfl,Below.refl _ _⟩
 · have hn1:3≤n∧n≤257:=by omega
   have HS:=hid (show Calls Tryz.prog 175 #[.agg #[.int .i64 257,.int .i64 28,.int .i64 3,.int .i64 257,.int .i64 2],.int .i64 n] w fun e w'=> ∃i,Plc (lt 3 2) 28 n i∧e=.returned (.tuple #[.int .i64 (257+i:Nat),.int .u32 (n - lt 3 2 i:Nat),.int .i64 (bt 2 i:Nat),.bool true])∧Below w.heap.size w w' from z2s 257 28 3 257 2 n w (by decide) (by decide) (by decide) (by decide) (.inr rfl) (by decide) hn1);have c0:=H.l0;have c1:=H.l1;have c2:=H.l2;have c3:=H.l3;have c4:=H.l4;have e1:((n:Int)==258)=false:=by rw[qN];omega
   have e2:(n==258)=false:=by rw[qN];exact h
   obtain⟨s,hs⟩:∃s,(257+lsy n:Nat)=s:=⟨_,rfl⟩
   obtain⟨x,hx⟩:∃x,lex n=x:=⟨_,rfl⟩
   obtain⟨b,hb⟩:∃b,lb (lsy n)=b:=⟨_,rfl⟩
   have HV:=hid (fun(i:Nat) (g:Plc (lt 3 2) 28 n i)=>(show(257+i:Nat)=s∧n - lt 3 2 i=x∧bt 2 i=b from⟨by rw[←hs,(z6F hn1.2 g).1],by rw[←hx,(z6F hn1.2 g).2.1],by rw[←hb,(z6F hn1.2 g).2.2]⟩));rw[hs,hx,hb];clear H hn hn1 h hs hx hb;go_enter Tryz.func157,Tryz.ntmps157;go_wp2_with (go_at_call 175;(with_reducible refine HS.out.mono ?_);rintro e w1 ⟨i,hp,rfl,b1⟩;have B1:=hid b1;obtain⟨v1,v2,v3⟩:=HV.out i hp;rw[v1,v2,v3];clear b1 hp v1 v2 v3);exact bodyPost_ret (v:=.tuple #[.int .i64 s,.int .u32 x,.int .i64 b,.bool true]) (by simp[results,Tryz.results157,go_sem]) rfl ⟨rfl,B1.out⟩
theorem dist_yes(n:Nat)(w:World)(H:Tab w)(hn:1≤n∧n≤32768):Calls Tryz.prog 158 #[.int .i64 n] w fun e w'=>e=.returned (.tuple #[.int .i64 (dsy n:Nat),.int .u32 (dex n:Nat),.int .i64 (db (dsy n):Nat),.bool true])∧Below w.heap.size w w':=by
 have HS:=hid (show Calls Tryz.prog 175 #[.agg #[.int .i64 0,.int .i64 30,.int .i64 1,.int .i64 32768,.int .i64 1],.int .i64 n] w fun e w'=> ∃i,Plc (lt 1 1) 30 n i∧e=.returned (.tuple #[.int .i64 (0+i:Nat),.int .u32 (n - lt 1 1 i:Nat),.int .i64 (bt 1 i:Nat),.bool true])∧Below w.heap.size w w' from z2s 0 30 1 32768 1 n w (by decide) (by decide) (by decide) (by decide) (.inl rfl) (by decide) hn);have c0:=H.d0;have c1:=H.d1;have c2:=H.d2;have c3:=H.d3;have c4:=H.d4;obtain⟨s,hs⟩:∃s,dsy n=s:=⟨_,rfl⟩
 obtain⟨x,hx⟩:∃x,dex n=x:=⟨_,rfl⟩
 obtain⟨b,hb⟩:∃b,db (dsy n)=b:=⟨_,rfl⟩
 have HV:=hid (fun(i:Nat) (g:Plc (lt 1 1) 30 n i)=>(show(0+i:Nat)=s∧n - lt 1 1 i=x∧bt 1 i=b from⟨by rw[←hs,(z4M hn.2 g).1,Nat.zero_add],by rw[←hx,(z4M hn.2 g).2.1],by rw[←hb,(z4M hn.2 g).2.2]⟩));rw[hb,hs,hx];clear H hn hs hx hb;go_enter Tryz.func158,Tryz.ntmps158;go_wp2_with (go_at_call 175;(with_reducible refine HS.out.mono ?_);rintro e w1 ⟨i,hp,rfl,b1⟩;have B1:=hid b1;obtain⟨v1,v2,v3⟩:=HV.out i hp;rw[v1,v2,v3];clear b1 hp v1 v2 v3);exact bodyPost_ret (v:=.tuple #[.int .i64 s,.int .u32 x,.int .i64 b,.bool true]) (by simp[results,Tryz.results158,go_sem]) rfl ⟨rfl,B1.out⟩
end Go.Proofs.YtacelhaidcmbcaaGreatDoor.Y
