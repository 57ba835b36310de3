/- Texts of one place, one behind the other: RbB, RbC. -/
import Derived.Test.YtdpabanajgegjaaGreatDoorERbA
import Derived.Test.YtdpabanajgegjaaGreatDoorEP8Cpy
import Derived.Deep.RegionLaw
import Derived.RegionTactic
import Derived.BigRegion
import Derived.ChangeAlike
import Derived.Laws.Cells
import Derived.WalkSpells
import Derived.WalkMore
set_option linter.unusedVariables false
set_option maxRecDepth 1000000
namespace Go.Proofs.YtdpabanajgegjaaGreatDoor
open Go.Lib (hid)
open Go.RowKit M
variable {w w':World} {B p a:Nat} {s:ByteArray} {S T:Nat→Prop}
theorem rinfo_u8:(Tryz.prog.info? 5).map (fun i=>(i.zero,i.size,i.bytes))=some (some (.int .u8 0),1,1):=by kernel_rfl
theorem eight(s:ByteArray)(k m:Nat)(hk:k≤s.size)(hm:m=Nat.min (s.extract k s.size).size 8):
 Lib.byteCells ((s.extract k s.size).data.toList.take m)++[Value.int .u8 0,.int .u8 0,.int .u8 0,.int .u8 0,.int .u8 0,.int .u8 0,.int .u8 0,.int .u8 0].drop (0+m)=(bys (tx s/256^k) 8).map (Value.int .u8):=by
 have e1:(s.extract k s.size).data.toList=s.data.toList.drop k:=by
  rw[ByteArray.data_extract,Array.toList_extract,List.extract_eq_take_drop,List.take_of_length_le];rw[List.length_drop,size_list];exact Nat.le_refl _
 have e2:(s.extract k s.size).size=(s.data.toList.drop k).length:=by rw[←size_list,e1]
 have h:=le_vl_take (s.data.toList.drop k) 8;rw[vl_drop] at h;unfold tx;rw[bys_of_le,h,e1];rw[e2] at hm;generalize s.data.toList.drop k=l at hm;have hz:[Value.int .u8 0,.int .u8 0,.int .u8 0,.int .u8 0,.int .u8 0,.int .u8 0,.int .u8 0,.int .u8 0]=List.replicate 8 (Value.int .u8 0):=rfl;rw[hz,List.drop_replicate,Nat.zero_add]
 have h3:l.take m=l.take 8:=by
  by_cases g:l.length≤8
  · have:m=l.length:=by rw[hm];exact Nat.min_eq_left g
    rw[this,List.take_of_length_le (Nat.le_refl _),List.take_of_length_le g]
  · have:m=8:=by rw[hm];exact Nat.min_eq_right (by omega)
    rw[this]
 have h4:8 - m=8 - l.length:=by
  have:m=min l.length 8:=hm;omega
 rw[h3,h4];simp[Lib.byteCells,Function.comp_def]
structure Nxt(w w2:World)(g:Nat)(x0 x1 x2 x3 x4 x5 x6 x7:Int):Prop where
 d0:w2.cell? ⟨g,0,none⟩=some (.int .u8 x0)
 d1:w2.cell? ⟨g,1,none⟩=some (.int .u8 x1)
 d2:w2.cell? ⟨g,2,none⟩=some (.int .u8 x2)
 d3:w2.cell? ⟨g,3,none⟩=some (.int .u8 x3)
 d4:w2.cell? ⟨g,4,none⟩=some (.int .u8 x4)
 d5:w2.cell? ⟨g,5,none⟩=some (.int .u8 x5)
 d6:w2.cell? ⟨g,6,none⟩=some (.int .u8 x6)
 d7:w2.cell? ⟨g,7,none⟩=some (.int .u8 x7)
 out:w2.heap[w.heap.size]? =some (.cells #[.int .u8 0,.int .u8 0,.int .u8 0,.int .u8 0,.int .u8 0,.int .u8 0,.int .u8 0,.int .u8 0] 281 (0,0))
 kept:Kept NoB w w2
theorem next_copy(w:World)(q m:Nat)(s:ByteArray)(hq:q≤s.size)(hm:m=Nat.min (s.extract q s.size).size 8)(x0 x1 x2 x3 x4 x5 x6 x7:Int)(hx:bys (tx s/256^q) 8=[x0,x1,x2,x3,x4,x5,x6,x7]):
 ∃W2,(Builtin.copy_ #[23,9] 3 #[.slice (some ⟨w.heap.size+1,0,none⟩) 8 8,.string (s.extract q s.size)]).run Tryz.prog
  ((w.alloc (.cells #[.int .u8 0,.int .u8 0,.int .u8 0,.int .u8 0,.int .u8 0,.int .u8 0,.int .u8 0,.int .u8 0] 281)).alloc (.cells #[.int .u8 0,.int .u8 0,.int .u8 0,.int .u8 0,.int .u8 0,.int .u8 0,.int .u8 0,.int .u8 0] 281)).drew=.ok (goInt m) W2∧
  Nxt w W2 (w.heap.size+1) x0 x1 x2 x3 x4 x5 x6 x7:=by
 have h8:=eight s q m hq hm;rw[hx] at h8;obtain⟨W,hW⟩:∃W,W=((w.alloc (.cells #[.int .u8 0,.int .u8 0,.int .u8 0,.int .u8 0,.int .u8 0,.int .u8 0,.int .u8 0,.int .u8 0] 281)).alloc (.cells #[.int .u8 0,.int .u8 0,.int .u8 0,.int .u8 0,.int .u8 0,.int .u8 0,.int .u8 0,.int .u8 0] 281)).drew:=⟨_,rfl⟩
 have hsz:(w.alloc (.cells #[.int .u8 0,.int .u8 0,.int .u8 0,.int .u8 0,.int .u8 0,.int .u8 0,.int .u8 0,.int .u8 0] 281)).heap.size=w.heap.size+1:=by simp
 have hh:W.heap[w.heap.size+1]? =some (.cells #[.int .u8 0,.int .u8 0,.int .u8 0,.int .u8 0,.int .u8 0,.int .u8 0,.int .u8 0,.int .u8 0] 281 (0,0)):=by
  rw[hW,←hsz];exact heap_alloc_new _ _
 have hh0:W.heap[w.heap.size]? =some (.cells #[.int .u8 0,.int .u8 0,.int .u8 0,.int .u8 0,.int .u8 0,.int .u8 0,.int .u8 0,.int .u8 0] 281 (0,0)):=by
  rw[hW];refine(Below.heap_alloc (w.alloc (.cells #[.int .u8 0,.int .u8 0,.int .u8 0,.int .u8 0,.int .u8 0,.int .u8 0,.int .u8 0,.int .u8 0] 281)) _ w.heap.size (by omega)).trans ?_
  exact heap_alloc_new _ _
 have hk:Kept NoB w W:=by rw[hW];exact(((Kept.refl NoB w).alloc _).alloc _).drew
 rw[←hW];clear hW
 have g:=run_copy_string_some (P:= Tryz.prog) W 23 9 3 5 (w.heap.size+1) 0 8 8 m (s.extract q s.size) _ 281 Tryz.underlying23 (by kernel_rfl) hh hm (by
  have:m≤8:=by rw[hm];exact Nat.min_le_right _ _
  show 0+m≤8;omega)
 rw[show(#[Value.int .u8 0,.int .u8 0,.int .u8 0,.int .u8 0,.int .u8 0,.int .u8 0,.int .u8 0,.int .u8 0]:Array Value).toList=[Value.int .u8 0,.int .u8 0,.int .u8 0,.int .u8 0,.int .u8 0,.int .u8 0,.int .u8 0,.int .u8 0] from rfl,List.take_zero,List.nil_append,h8] at g;refine⟨_,g,?_⟩;have hc:=fun j=>cell_setRow_same W (w.heap.size+1) j _ (([x0,x1,x2,x3,x4,x5,x6,x7].map (Value.int .u8)).toArray) _ _ hh
 exact⟨hc 0,hc 1,hc 2,hc 3,hc 4,hc 5,hc 6,hc 7,(setRow_other _ _ _ _ (by omega)).trans hh0,hk.setRow _ (.inr (by omega)) _⟩
set_option maxHeartbeats 1000000 in
theorem next_any(h:Rd w B p s a)(hs:s.size≤100000000):
 Calls Tryz.prog 197 #[.pointer (some ⟨p,0,none⟩)] w fun e w'=>e=.returned (.agg ((bys (tx s/256^(a/8)) 8).map (Value.int .u8)).toArray)∧Kept NoB w w':=by
 have h0:=h.c0;have h1:=h.c1;have h2:=h.c2;have hle:=h.le;have hp:=h.lt;have hk:a/8≤s.size:=by omega
 have hw:IntKind.i64.wrap ((a:Int) /8)=((a/8:Nat):Int):=by rw[IntWalk.i64_in _ ⟨by omega,by omega⟩];omega
 obtain⟨q,hq⟩:∃q,a/8=q:=⟨_,rfl⟩
 rw[hq] at hw hk ⊢;obtain⟨x0,x1,x2,x3,x4,x5,x6,x7,hx⟩:∃x0 x1 x2 x3 x4 x5 x6 x7,bys (tx s/256^q) 8=[x0,x1,x2,x3,x4,x5,x6,x7]:=⟨_,_,_,_,_,_,_,_,rfl⟩
 obtain⟨W2,hr,hN⟩:=next_copy w q _ s hk rfl x0 x1 x2 x3 x4 x5 x6 x7 hx;have HC:=hid hr;have HX:=hid hx;have HN:=hid hN;clear h hx hr hN hq hle;go_enter Tryz.func197,Tryz.ntmps197;go_wp2_with fail
 go_region_law (refine step_copy_known rfl _ _ _ _ rfl _ _ rfl rfl HC.out ?_)
 all_goals
  have d0:=HN.out.d0;have d1:=HN.out.d1;have d2:=HN.out.d2;have d3:=HN.out.d3;have d4:=HN.out.d4;have d5:=HN.out.d5;have d6:=HN.out.d6;have d7:=HN.out.d7;have e0:W2.cell? ⟨w.heap.size,0,none⟩=some (.int .u8 0):=by have:=HN.out.out;simp[World.cell?,this]
  have f0:W2.frozen? ⟨w.heap.size,0,none⟩=false:=by have:=HN.out.out;simp[World.frozen?,this]
  have e1:W2.cell? ⟨w.heap.size,1,none⟩=some (.int .u8 0):=by have:=HN.out.out;simp[World.cell?,this]
  have f1:W2.frozen? ⟨w.heap.size,1,none⟩=false:=by have:=HN.out.out;simp[World.frozen?,this]
  have e2:W2.cell? ⟨w.heap.size,2,none⟩=some (.int .u8 0):=by have:=HN.out.out;simp[World.cell?,this]
  have f2:W2.frozen? ⟨w.heap.size,2,none⟩=false:=by have:=HN.out.out;simp[World.frozen?,this]
  have e3:W2.cell? ⟨w.heap.size,3,none⟩=some (.int .u8 0):=by have:=HN.out.out;simp[World.cell?,this]
  have f3:W2.frozen? ⟨w.heap.size,3,none⟩=false:=by have:=HN.out.out;simp[World.frozen?,this]
  have e4:W2.cell? ⟨w.heap.size,4,none⟩=some (.int .u8 0):=by have:=HN.out.out;simp[World.cell?,this]
  have f4:W2.frozen? ⟨w.heap.size,4,none⟩=false:=by have:=HN.out.out;simp[World.frozen?,this]
  have e5:W2.cell? ⟨w.heap.size,5,none⟩=some (.int .u8 0):=by have:=HN.out.out;simp[World.cell?,this]
  have f5:W2.frozen? ⟨w.heap.size,5,none⟩=false:=by have:=HN.out.out;simp[World.frozen?,this]
  have e6:W2.cell? ⟨w.heap.size,6,none⟩=some (.int .u8 0):=by have:=HN.out.out;simp[World.cell?,this]
  have f6:W2.frozen? ⟨w.heap.size,6,none⟩=false:=by have:=HN.out.out;simp[World.frozen?,this]
  have e7:W2.cell? ⟨w.heap.size,7,none⟩=some (.int .u8 0):=by have:=HN.out.out;simp[World.cell?,this]
  have f7:W2.frozen? ⟨w.heap.size,7,none⟩=false:=by have:=HN.out.out;simp[World.frozen?,this]
  clear h0 h1 h2;go_wp2_with fail;have g0:(W2.setCell ⟨w.heap.size,0,none⟩ (.int .u8 x0)).cell? ⟨w.heap.size,0,none⟩=some (.int .u8 x0):=rset_eq e0;have g1:((W2.setCell ⟨w.heap.size,0,none⟩ (.int .u8 x0)).setCell ⟨w.heap.size,1,none⟩ (.int .u8 x1)).cell? ⟨w.heap.size,1,none⟩=some (.int .u8 x1):=rset_eq ((rset_ne (by decide)).trans e1);have g2:(((W2.setCell ⟨w.heap.size,0,none⟩ (.int .u8 x0)).setCell ⟨w.heap.size,1,none⟩ (.int .u8 x1)).setCell ⟨w.heap.size,2,none⟩ (.int .u8 x2)).cell? ⟨w.heap.size,2,none⟩=some (.int .u8 x2):=rset_eq ((rset_ne (by decide)).trans ((rset_ne (by decide)).trans e2));have g3:((((W2.setCell ⟨w.heap.size,0,none⟩ (.int .u8 x0)).setCell ⟨w.heap.size,1,none⟩ (.int .u8 x1)).setCell ⟨w.heap.size,2,none⟩ (.int .u8 x2)).setCell ⟨w.heap.size,3,none⟩ (.int .u8 x3)).cell? ⟨w.heap.size,3,none⟩=some (.int .u8 x3):=rset_eq ((rset_ne (by decide)).trans ((rset_ne (by decide)).trans ((rset_ne (by decide)).trans e3)));have g4:(((((W2.setCell ⟨w.heap.size,0,none⟩ (.int .u8 x0)).setCell ⟨w.heap.size,1,none⟩ (.int .u8 x1)).setCell ⟨w.heap.size,2,none⟩ (.int .u8 x2)).setCell ⟨w.heap.size,3,none⟩ (.int .u8 x3)).setCell ⟨w.heap.size,4,none⟩ (.int .u8 x4)).cell? ⟨w.heap.size,4,none⟩=some (.int .u8 x4):=rset_eq ((rset_ne (by decide)).trans ((rset_ne (by decide)).trans ((rset_ne (by decide)).trans ((rset_ne (by decide)).trans e4))));have g5:((((((W2.setCell ⟨w.heap.size,0,none⟩ (.int .u8 x0)).setCell ⟨w.heap.size,1,none⟩ (.int .u8 x1)).setCell ⟨w.heap.size,2,none⟩ (.int .u8 x2)).setCell ⟨w.heap.size,3,none⟩ (.int .u8 x3)).setCell ⟨w.heap.size,4,none⟩ (.int .u8 x4)).setCell ⟨w.heap.size,5,none⟩ (.int .u8 x5)).cell? ⟨w.heap.size,5,none⟩=some (.int .u8 x5):=rset_eq ((rset_ne (by decide)).trans ((rset_ne (by decide)).trans ((rset_ne (by decide)).trans ((rset_ne (by decide)).trans ((rset_ne (by decide)).trans e5)))));have g6:(((((((W2.setCell ⟨w.heap.size,0,none⟩ (.int .u8 x0)).setCell ⟨w.heap.size,1,none⟩ (.int .u8 x1)).setCell ⟨w.heap.size,2,none⟩ (.int .u8 x2)).setCell ⟨w.heap.size,3,none⟩ (.int .u8 x3)).setCell ⟨w.heap.size,4,none⟩ (.int .u8 x4)).setCell ⟨w.heap.size,5,none⟩ (.int .u8 x5)).setCell ⟨w.heap.size,6,none⟩ (.int .u8 x6)).cell? ⟨w.heap.size,6,none⟩=some (.int .u8 x6):=rset_eq ((rset_ne (by decide)).trans ((rset_ne (by decide)).trans ((rset_ne (by decide)).trans ((rset_ne (by decide)).trans ((rset_ne (by decide)).trans ((rset_ne (by decide)).trans e6))))));have g7:((((((((W2.setCell ⟨w.heap.size,0,none⟩ (.int .u8 x0)).setCell ⟨w.heap.size,1,none⟩ (.int .u8 x1)).setCell ⟨w.heap.size,2,none⟩ (.int .u8 x2)).setCell ⟨w.heap.size,3,none⟩ (.int .u8 x3)).setCell ⟨w.heap.size,4,none⟩ (.int .u8 x4)).setCell ⟨w.heap.size,5,none⟩ (.int .u8 x5)).setCell ⟨w.heap.size,6,none⟩ (.int .u8 x6)).setCell ⟨w.heap.size,7,none⟩ (.int .u8 x7)).cell? ⟨w.heap.size,7,none⟩=some (.int .u8 x7):=rset_eq ((rset_ne (by decide)).trans ((rset_ne (by decide)).trans ((rset_ne (by decide)).trans ((rset_ne (by decide)).trans ((rset_ne (by decide)).trans ((rset_ne (by decide)).trans ((rset_ne (by decide)).trans e7)))))))
  refine bodyPost_ret (v:=.agg #[.int .u8 x0,.int .u8 x1,.int .u8 x2,.int .u8 x3,.int .u8 x4,.int .u8 x5,.int .u8 x6,.int .u8 x7]) (by simp[results,Tryz.results197,go_sem,g0,g1,g2,g3,g4,g5,g6,g7]) rfl ⟨by rw[HX.out];rfl,?_⟩;exact((((((((HN.out.kept.setCell ⟨w.heap.size,0,none⟩ (.inr (Nat.le_refl _)) (.int .u8 x0)).setCell ⟨w.heap.size,1,none⟩ (.inr (Nat.le_refl _)) (.int .u8 x1)).setCell ⟨w.heap.size,2,none⟩ (.inr (Nat.le_refl _)) (.int .u8 x2)).setCell ⟨w.heap.size,3,none⟩ (.inr (Nat.le_refl _)) (.int .u8 x3)).setCell ⟨w.heap.size,4,none⟩ (.inr (Nat.le_refl _)) (.int .u8 x4)).setCell ⟨w.heap.size,5,none⟩ (.inr (Nat.le_refl _)) (.int .u8 x5)).setCell ⟨w.heap.size,6,none⟩ (.inr (Nat.le_refl _)) (.int .u8 x6)).setCell ⟨w.heap.size,7,none⟩ (.inr (Nat.le_refl _)) (.int .u8 x7))
end Go.Proofs.YtdpabanajgegjaaGreatDoor
namespace Go.Proofs.YtdpabanajgegjaaGreatDoor
open Go.Lib (hid)
open Go.RowKit M
variable {w w':World} {B p a:Nat} {s:ByteArray} {S T:Nat→Prop}
theorem idx8(w:World)(N k:Nat)(hk:k<8):
 (Instr.index 281 (.agg ((bys N 8).map (Value.int .u8)).toArray) (.int .i64 k)).run Tryz.prog w=.ok (.int .u8 ((N/256^k%256:Nat):Int)) w:=by
 have h':k=0∨k=1∨k=2∨k=3∨k=4∨k=5∨k=6∨k=7:=by omega
 rcases h' with rfl|rfl|rfl|rfl|rfl|rfl|rfl|rfl<;>rfl
theorem look_any(h:Rd w B p s a)(hs:s.size≤100000000)(n:Nat)(hn:n≤56):
 Calls Tryz.prog 161 #[.pointer (some ⟨p,0,none⟩),.int .i64 n] w fun e w'=>e=.returned (.int .u64 (nb s a n))∧Kept NoB w w':=by
 obtain⟨N,hN⟩:∃N,tx s/256^(a/8)=N:=⟨_,rfl⟩
 have hnx:=next_any h hs;rw[hN] at hnx;obtain⟨V,hV⟩:∃V,Value.agg ((bys N 8).map (Value.int .u8)).toArray=V:=⟨_,rfl⟩
 rw[hV] at hnx;have HC:=hid hnx;have HR:=hid h;have hidx:=idx8;have HN:=hid hN;have HV:=hid hV;have ha:a≤800000000:=by have:=h.le;omega
 clear hnx h hN hV;go_enter Tryz.func161,Tryz.ntmps161;go_wp2_with fail;refine HC.out.mono ?_;rintro e w1 ⟨rfl,k1⟩;have R1:=hid (HR.out.same k1);have K1:=hid k1;clear k1;go_wp2_with fail
 go_loop [5,10] (fun u i=> ∃k:Nat,k≤8∧i=.int .i64 k∧u=.int .u64 (N%256^k:Nat)) (fun _ i=>8 - (intOf i).toNat)
 case atStart=>exact⟨0,Nat.zero_le _,rfl,by simp[Nat.mod_one]⟩
 case round=>
  obtain⟨k,hk,rfl,rfl⟩:=hrel;by_cases hlt:k<8
  · have hx:=hidx w1 N k hlt
    rw[HV.out] at hx;have hor:=or_byte N k hlt;obtain⟨b,hb⟩:∃b,N/256^k%256=b:=⟨_,rfl⟩
    obtain⟨u,hu⟩:∃u,N%256^k=u:=⟨_,rfl⟩
    obtain⟨u',hu'⟩:∃u',N%256^(k+1)=u':=⟨_,rfl⟩
    rw[hb] at hx;rw[hb,hu,hu'] at hor;rw[hu];have hb2:b<256:=by rw[←hb];exact Nat.mod_lt _ (by decide)
    have HU:=hid hu';have h8:0≤(k:Int)*8:=by omega
    clear hu hu' hb hidx;go_wp2_with fail
    go_round
    case rel=>exact⟨k+1,by omega,by go_num,by rw[HU.out]⟩
    case measure=>simp[intOf];omega
  · obtain rfl:k=8:=by omega
    obtain⟨u,hu⟩:∃u,N%256^8=u:=⟨_,rfl⟩
    rw[hu];have c2:=R1.out.c2;have hw:(a:Int).tmod 8=((a%8:Nat):Int):=by rw[Int.tmod_eq_emod_of_nonneg (by omega)];rfl
    obtain⟨r,hr⟩:∃r,a%8=r:=⟨_,rfl⟩
    rw[hr] at hw;have HU:=hid hu;have Hr:=hid hr;clear hu hr hidx;go_wp2_with fail
    go_quiet ((go_at_call 198;exact Calls.quiet_of_same ((mask_nat n _ (by omega)).mono (by rintro e w' ⟨rfl,rfl⟩;exact⟨rfl,rfl⟩))))
    go_wp2_with fail;go_ret;exact⟨congrArg (fun z=>Ending.returned (.int .u64 z)) (look_end s a n N u r hn HN.out HU.out Hr.out),K1.out.drewN _⟩
def Got(w:World)(B p:Nat)(s:ByteArray)(v:Value)(r:Nat)(e:Ending)(w':World):Prop:=
 e=.returned v∧Rd w' B p s r∧Kept (fun j=>j=p) w w'
theorem Got.same(h:Rd w B p s a)(hk:Kept NoB w w')(v:Value):Got w B p s v a (.returned v) w':=⟨rfl,h.same hk,hk.none _⟩
theorem Got.put(h:Rd w B p s a)(hk:Kept NoB w w')(b:Nat)(hb:b≤8*s.size)(z:Int)(hz:z=(b:Int))(v:Value):Got w B p s v b (.returned v) (w'.setCell ⟨p,2,none⟩ (.int .i64 z)):=by
 have h2:=(h.same hk).put b hb z hz;exact⟨rfl,h2.1,(hk.none _).trans h2.2 (fun j hj=> .inl hj)⟩
theorem rbits_yes(h:Rd w B p s a)(hs:s.size≤100000000)(n:Nat)(hn:n≤56)(hle:a+n≤8*s.size):
 Calls Tryz.prog 126 #[.pointer (some ⟨p,0,none⟩),.int .i64 n] w (Got w B p s (.tuple #[.int .u64 (nb s a n),.int .i64 0]) (a+n)):=by
 have h0:=h.c0;have HH:=hid h;have ha:a≤800000000:=by have:=h.le;omega
 obtain⟨l,hl⟩:∃l,8*s.size - a=l:=⟨_,rfl⟩
 have hnl:n≤l:=by omega
 have HL:=hid hl;have HE:=hid hle;clear h hl hle;go_enter Tryz.func126,Tryz.ntmps126;go_wp2_with (go_at_call 93;refine(rmade_yes p _ h0).mono ?_;rintro e w' ⟨rfl,rfl⟩);refine(rmay_yes n _ (by omega) (by omega)).mono ?_;rintro e w' ⟨rfl,rfl⟩;go_wp2_with fail;refine(left_any HH.out hs).mono ?_;rintro e w' ⟨rfl,n1,rfl⟩;rw[HL.out];have hd:decide ((l:Int)<(n:Int))=false:=by simp;omega
 go_wp2_with fail;refine(look_any (HH.out.drewN n1) hs n hn).mono ?_;rintro e w2 ⟨rfl,k2⟩;have K2:=hid (((Kept.refl NoB w).drewN n1).trans k2 (fun _ g=>g.elim));have R2:=hid (HH.out.same K2.out);have c2:=R2.out.c2;have f2:=R2.out.fz 2;clear k2 h0 hd;go_wp2_with fail;go_ret2;exact Got.put HH.out K2.out (a+n) HE.out _ (by omega) _
theorem rbits_end(h:Rd w B p s a)(hs:s.size≤100000000)(x:Int)(h1:0≤x)(h2:x≤56)(hle:((8*s.size:Nat):Int) - a<x):
 Calls Tryz.prog 126 #[.pointer (some ⟨p,0,none⟩),.int .i64 x] w (Got w B p s (.tuple #[.int .u64 0,.int .i64 6]) a):=by
 have h0:=h.c0;have HH:=hid h;obtain⟨l,hl⟩:∃l,8*s.size - a=l:=⟨_,rfl⟩
 have hnl:(l:Int)<x:=by have:=h.le;omega
 have HL:=hid hl;clear h hl hle;go_enter Tryz.func126,Tryz.ntmps126;go_wp2_with (go_at_call 93;refine(rmade_yes p _ h0).mono ?_;rintro e w' ⟨rfl,rfl⟩);refine(rmay_yes x _ (by omega) (by omega)).mono ?_;rintro e w' ⟨rfl,rfl⟩;go_wp2_with fail;refine(left_any HH.out hs).mono ?_;rintro e w' ⟨rfl,n1,rfl⟩;rw[HL.out];go_wp2_with fail;go_ret2;exact Got.same HH.out ((Kept.refl NoB w).drewN n1) _
end Go.Proofs.YtdpabanajgegjaaGreatDoor
