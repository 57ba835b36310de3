/- Texts of one place, one behind the other: IfH, IfI, IfJ. -/
import Derived.Test.YtdpabanajgegjaaGreatDoorEMIfC
import Derived.Defers
import Derived.Recover
import Derived.Laws.Pointers
import Derived.Test.YtdpabanajgegjaaGreatDoorEMMath
set_option maxRecDepth 1000000
set_option linter.unusedVariables false
set_option linter.unusedSimpArgs false
namespace Go.Proofs.YtdpabanajgegjaaGreatDoor.I
open Go.Lib (hid)
open Go Go.RowKit M
theorem eql_fault(c:Nat)(w:World):(binOp .eql 20 (.iface 99 (.agg #[.int .i64 c])) .nilIface).run Tryz.prog w=.ok (.bool false) w:=by kernel_rfl
theorem is_fault(c:Nat)(w:World):(Instr.typeAssert (.iface 99 (.agg #[.int .i64 c])) 20 99 true).run Tryz.prog w=.ok (.tuple #[.agg #[.int .i64 c],.bool true]) w:=by kernel_rfl
theorem catch_idle(E:Nat)(w:World):
 CallsD Tryz.prog 53 #[.pointer (some ⟨E,0,none⟩)] .returning w fun e u' w'=>e=.returned (.tuple #[])∧u'=.returning∧w'=w:=by
 refine callsD_of_wpS Tryz.func53 rfl fun c₀ cs hu=> ?_
 apply wpS_seq
 apply wpS_region
 simp[wpOpsS,go_sem,recoverD,hu,Tryz.ntmps53,Exit.thenS];refine wpS_of_wp ?_
 go_wp2;cases c₀
 simp_all [bodyPostS,results,Tryz.results53]
set_option maxHeartbeats 2000000 in
theorem catch_panic(c E:Nat)(y:Value)(older:List PanicEntry)(w:World)(hE:w.cell? ⟨E,0,none⟩=some y)(fE:w.frozen? ⟨E,0,none⟩=false):
 CallsD Tryz.prog 53 #[.pointer (some ⟨E,0,none⟩)] (.panicking ({v:=.iface 99 (.agg #[.int .i64 c]),recovered:=false}::older)) w fun e u' w'=>
  e=.returned (.tuple #[])∧u'=.panicking ({v:=.iface 99 (.agg #[.int .i64 c]),recovered:=true}::older)∧w'=(w.alloc (.cells #[.int .i64 c] 99)).setCell ⟨E,0,none⟩ (.int .i64 c):=by
 have hE1:=World.block_lt_of_cell? _ _ hE;have bw:Below w.heap.size w (w.alloc (.cells #[.int .i64 c] 99)):=(Below.refl _ _).alloc (Nat.le_refl _) _;have hN:=heap_alloc_new w (.cells #[.int .i64 c] 99);obtain⟨w1,hw1⟩:∃w1,w.alloc (.cells #[.int .i64 c] 99)=w1:=⟨_,rfl⟩
 rw[hw1] at bw hN;have e1:w1.cell? ⟨E,0,none⟩=some y:=(bw.cell (p:=⟨E,0,none⟩) hE1).trans hE;have e2:w1.frozen? ⟨E,0,none⟩=false:=(bw.frozen (p:=⟨E,0,none⟩) hE1).trans fE;have e3:w1.cell? ⟨w.heap.size,0,none⟩=some (.int .i64 c):=by simp[World.cell?,hN]
 refine callsD_of_wpS Tryz.func53 rfl fun c₀ cs hu=> ?_
 apply wpS_seq
 apply wpS_region
 simp[wpOpsS,go_sem,recoverD,hu,Tryz.ntmps53,Exit.thenS];refine wpS_of_wp ?_
 rw[show(#[Value.pointer (some {block:=E,off:=0})]++(Array.replicate 11 undef).setIfInBounds 3 (Value.iface 99 (Value.agg #[Value.int .i64 c])):Array Value)= #[Value.pointer (some {block:=E,off:=0}),undef,undef,undef,.iface 99 (.agg #[.int .i64 c]),undef,undef,undef,undef,undef,undef,undef] from rfl];have n1:=eql_fault c;have n2:=is_fault c;go_wp2_with fail;simp[bodyPostS,results,Tryz.results53]
section
variable {s:ByteArray} {D L K:Nat} {x y:St} {b:Unit ⊕ Unit}
theorem blk_mono(h:blk K () s D L x=.ok (b,y))(hx:x.1≤8*s.size):x.1<y.1∧y.1≤8*s.size:=by
 have hin:=(Nice.blk K ()).inn h hx;unfold blk at h;obtain⟨f,x1,h1,h2⟩:=bnd_ok h;obtain⟨k,x2,h3,h4⟩:=bnd_ok h2;obtain⟨u,x3,h5,h6⟩:=bnd_ok h4;have m1:=(bits_lt h1 2 (by decide)).2;have m2:=((Nice.bits 2).mono h3).1;have m3:=((Nice.body K k).mono h5).1;cases h6
 rw[m1] at m2;simp only at m2;exact⟨by omega,hin⟩
end
def ansE(r:Except Nat (Unit×St))(D:Nat):Ending:=.returned (.tuple #[.string ⟨(ans r D).1.toArray⟩,.int .i64 (ans r D).2.1,.int .i64 (ans r D).2.2])
def stp(v:Value):Nat:=match v with
 |.bool false=>1
 |_=>0
def Nrm(Q:Exit→Act→World→Prop):Exit→Act→World→Prop
 |.normal,a,w=>Q .normal a w
 |_,_,_=>False
theorem Nrm.to{Q:Exit→Act→World→Prop}:∀e a w,Nrm Q e a w→Q e a w:=fun e a w h=>by
 cases e<;>first|exact h|exact h.elim
theorem Nrm.back{Q:Exit→Act→World→Prop}{a:Act}{w:World}(h:Q .normal a w):Nrm Q .normal a w:=h
theorem wp_nrm{P:Program}{c:Code}{Q:Exit→Act→World→Prop}{a:Act}{w:World}(h:c.wp P (Nrm Q) a w):c.wp P Q a w:=Code.wp_mono Nrm.to h
set_option maxHeartbeats 4000000 in
theorem read_any(d s:ByteArray)(L K:Nat)(w:World)(hT:V.Tabs w)(hd:d.size≤100000)(hs:s.size≤100000)(hL:L≤800000000)(hK:8*s.size<K):
 Calls Tryz.prog 34 #[.string d,.string s,.int .i64 L] w fun e w'=>e=ansE (inf K s d.size L (0,d.data.toList)) d.size∧Below w.heap.size w w':=by
 have hmf:∀ (fn:Fn) (first cap:Array Value) (w:World),(Instr.makeFunc fn first cap).run Tryz.prog w=.ok (.func fn first cap) w:=fun _ _ _ _=>rfl
 have hdl:d.data.toList.length=d.size:=Array.length_toList;obtain⟨F,hF⟩:∃F,inf K s d.size L (0,d.data.toList)=F:=⟨_,rfl⟩
 rw[hF];unfold inf at hF;have bw1:Below w.heap.size w (w.alloc (.cells #[.int .i64 0] 27)):=(Below.refl _ w).alloc (Nat.le_refl _) _;have hE1:(w.alloc (.cells #[.int .i64 0] 27)).heap[w.heap.size]? =some (.cells #[.int .i64 0] 27 (0,0)):=heap_alloc_new _ _;have hsz:(w.alloc (.cells #[.int .i64 0] 27)).heap.size=w.heap.size+1:=by simp
 obtain⟨w1,hw1⟩:∃w1,w.alloc (.cells #[.int .i64 0] 27)=w1:=⟨_,rfl⟩
 rw[hw1] at bw1 hE1 hsz;obtain⟨E,hEe⟩:∃E,w.heap.size=E:=⟨_,rfl⟩
 rw[hEe] at bw1 hE1 hsz;have hNew:=rnew_any (B:=E) s w1 (by omega);rw[hsz] at hNew;have HNew:=hid hNew;have HT:=hid (fun(W:World) (hb:Below E w W)=>(show V.Tabs W from hT.keep (by rw[hEe];exact hb)));have HB1:=hid bw1;have HE1:=hid hE1;have HF:=hid hF;have HBy:=hid (fun(W:World)=>run_by W d (by omega));clear bw1 hE1 hF hNew hT
 go_enter_defers Tryz.func34,Tryz.ntmps34
 go_wp2_with (go_at_call 54;(with_reducible refine HNew.out.mono ?_);rintro e w2 ⟨rfl,k2,r2,z2⟩;obtain⟨cp,w3,hc3,y3,b3,s3⟩:=HBy.out w2;have K2:=hid k2;have R2:=hid r2;have Y3:=hid y3;have B3:=hid b3;clear k2 r2 y3 b3);obtain⟨r,hr⟩:∃r,w2.heap.size=r:=⟨_,rfl⟩
 rw[hr] at Y3 s3 B3 ⊢;have hE1r:E+1<r:=by rw[←hr];exact z2
 have hnew:(w3.alloc (.cells #[.pointer (some ⟨E+1,0,none⟩),.slice (some ⟨r,0,none⟩) d.size cp,.int .i64 (L:Int),.pointer none,.pointer none] 107)).heap[r+1]? =some (.cells #[.pointer (some ⟨E+1,0,none⟩),.slice (some ⟨r,0,none⟩) d.size cp,.int .i64 (L:Int),.pointer none,.pointer none] 107 (0,0)):=by rw[←s3];exact heap_alloc_new _ _
 have hkA:Kept NoB w3 (w3.alloc (.cells #[.pointer (some ⟨E+1,0,none⟩),.slice (some ⟨r,0,none⟩) d.size cp,.int .i64 (L:Int),.pointer none,.pointer none] 107)):=(Kept.refl _ _).alloc _;obtain⟨w4,hw4⟩:∃w4,w3.alloc (.cells #[.pointer (some ⟨E+1,0,none⟩),.slice (some ⟨r,0,none⟩) d.size cp,.int .i64 (L:Int),.pointer none,.pointer none] 107)=w4:=⟨_,rfl⟩
 rw[hw4] at hnew hkA ⊢;have hk23:Kept NoB w2 w3:=Kept.of_below (by rw[hr];exact B3.out);have hk14:Kept NoB w1 w4:=(K2.out.trans hk23 (fun _ e=>e.elim)).trans hkA (fun _ e=>e.elim);have hE4:w4.heap[E]? =some (.cells #[.int .i64 0] 27 (0,0)):=(hk14.block E (by omega) (fun e=>e)).trans HE1.out;have hb4:Below E w w4:=HB1.out.trans ((kb hk14).mono (by omega))
 have hI4:In w4 E (r+1) (E+1) r s d.size L (0,d.data.toList):=by
  refine⟨by omega,by omega,by omega,(R2.out.keep hk23 (fun e=>e)).keep hkA (fun e=>e),⟨cp,.pointer none,.pointer none,?_,Y3.out.kept hkA (fun e=>e),.inl ⟨rfl,rfl⟩⟩,by simp only;omega,by simp only;omega⟩;simp only[hdl,Nat.sub_self];rw[show((L:Int) - ((0:Nat):Int))=(L:Int) by omega];exact hnew
 have hTB:TB E w4:=fun W hb=>HT.out W (hb4.trans hb)
 have HE4:=hid hE4;have HB4:=hid hb4;have HI4:=hid hI4;have HTB:=hid (fun(W:World) (hk:Kept (Ch (r+1) (E+1) r) w4 W)=>(show TB E W from hTB.go (hI4.bl hk)))
 have HLow:=hid (fun(W:World) (hk:Kept (Ch (r+1) (E+1) r) w4 W)=>(show Below E w W∧W.heap[E]? =some (.cells #[.int .i64 0] 27 (0,0)) from
  ⟨hb4.trans (hI4.bl hk),(hk.block E (by have:=hI4.glt;omega) (fun e=>by rcases e with e|e|e<;>omega)).trans hE4⟩))
 clear hnew hkA hw4 hk23 hk14 hE4 hb4 hI4 hTB K2 R2 Y3 B3 HE1 HB1 HNew hc3 HBy HT
 go_loopw [10] (fun v wr=>(v=.bool false∧∃k x',Res w4 E (r+1) (E+1) r s d.size L x' wr∧8*s.size - x'.1<k∧loopR (blk K) k () s d.size L x'=F)∨(v=.bool true∧∃x',Res w4 E (r+1) (E+1) r s d.size L x' wr∧F=.ok ((),x'))) (fun v wr=>(8*s.size - plc (E+1) wr)+stp v)
 case atStart=>exact .inl ⟨rfl,K,_,HI4.out.start,by simp only;omega,HF.out⟩
 case round=>
  clear HF HI4;rcases hrel with⟨rfl,k,x',hS,hk,hFk⟩|⟨rfl,x',hS,rfl⟩
  · obtain⟨k,rfl⟩:∃j,k=j+1:=⟨k - 1,by omega⟩
    obtain⟨hxl,hpl⟩:x'.1≤8*s.size∧plc (E+1) wr=x'.1:=by obtain⟨_,r1,_,i1⟩:=hS;exact⟨i1.rd.le,i1.plc⟩
    have hTb:=HTB.out wr hS.kept;have HB:=hS.lift (fun r1 i1=>block_c i1 hs hTb K (by omega) hL (by omega));have HS:=hid hS;clear hS hTb;cases hb:blk K () s d.size L x' with
    |error c=>
     have hFc:F=.error c:=by rw[←hFk];exact loop_no hb
     subst hFc;rw[hb] at HB;have HB:=hid (show Calls Tryz.prog 55 #[.pointer (some ⟨r+1,0,none⟩)] wr fun e w'=>e=.panicked (flt c)∧Kept (Ch (r+1) (E+1) r) w4 w' from HB);clear hb hFk hk;go_wp2_with (go_at_call 55;(with_reducible refine HB.out.mono ?_);rintro e w5 ⟨rfl,k5⟩;have K5:=hid k5;clear k5);obtain⟨l1,l2⟩:=HLow.out _ K5.out;have q1:w5.cell? ⟨E,0,none⟩=some (.int .i64 0):=by simp[World.cell?,l2]
     have q2:w5.frozen? ⟨E,0,none⟩=false:=by simp[World.frozen?,l2]
     refine leaves_cons (f:= 53) (args:= #[.pointer (some ⟨E,0,none⟩)]) (by simp) (by simp[go_sem]) ?_
     refine(catch_panic c E (.int .i64 0) [] w5 q1 q2).mono ?_
     rintro e u' w'' ⟨rfl,rfl,rfl⟩;have hE5:E<w5.heap.size:=(Array.getElem?_eq_some_iff.1 l2).1;have e5:(w5.alloc (.cells #[.int .i64 c] 99)).heap[E]? =some (.cells #[.int .i64 0] 27 (0,0)):=(Below.heap_alloc _ _ _ hE5).trans l2;have q3:((w5.alloc (.cells #[.int .i64 c] 99)).setCell ⟨E,0,none⟩ (.int .i64 c)).cell? ⟨E,0,none⟩=some (.int .i64 c):=World.cell?_setCell_same' _ _ _ (by simp[World.cell?,e5]);have hbb:Below w.heap.size w ((w5.alloc (.cells #[.int .i64 c] 99)).setCell ⟨E,0,none⟩ (.int .i64 c)):=by rw[hEe];exact(l1.alloc (by omega) _).setCell (p:=⟨E,0,none⟩) (Nat.le_refl _) _
     simp[Leaves,settle,results,Tryz.results34,go_sem,q3];exact⟨rfl,hbb⟩
    |ok p=>
     obtain⟨u,x2⟩:=p;rw[hb] at HB;obtain⟨m1,m2⟩:=blk_mono hb hxl;have HB:=hid (show Calls Tryz.prog 55 #[.pointer (some ⟨r+1,0,none⟩)] wr fun e w'=>BlkV u e w'∧Res w4 E (r+1) (E+1) r s d.size L x2 w' from HB);unfold BlkV at HB;cases u with
     |inl u=>
      have HG:=hid ((loop_go (k:=k) hb).symm.trans hFk);clear hb hFk;have HB':=hid (show Calls Tryz.prog 55 #[.pointer (some ⟨r+1,0,none⟩)] wr fun e w'=>e=.returned (.bool false)∧Res w4 E (r+1) (E+1) r s d.size L x2 w' from HB.out);clear HB;go_wp2_with (go_at_call 55;(with_reducible refine HB'.out.mono ?_);rintro e w5 ⟨rfl,o5⟩;have O5:=hid o5;clear o5);go_roundw
      case rel=>exact .inl ⟨rfl,k,x2,O5.out,by omega,HG.out⟩
      case measure=>
       have hp:plc (E+1) w5=x2.1:=by obtain⟨_,r1,_,i1⟩:=O5.out;exact i1.plc
       rw[hp,hpl];simp only[stp];omega
     |inr u=>
      have HG:=hid ((loop_end (k:=k) hb).symm.trans hFk);clear hb hFk;have HB':=hid (show Calls Tryz.prog 55 #[.pointer (some ⟨r+1,0,none⟩)] wr fun e w'=>e=.returned (.bool true)∧Res w4 E (r+1) (E+1) r s d.size L x2 w' from HB.out);clear HB;go_wp2_with (go_at_call 55;(with_reducible refine HB'.out.mono ?_);rintro e w5 ⟨rfl,o5⟩;have O5:=hid o5;clear o5);go_roundw
      case rel=>exact .inr ⟨rfl,x2,O5.out,HG.out.symm⟩
      case measure=>
       have hp:plc (E+1) w5=x2.1:=by obtain⟨_,r1,_,i1⟩:=O5.out;exact i1.plc
       rw[hp,hpl];simp only[stp];omega
  · have HA:=hid (show Calls Tryz.prog 56 #[.pointer (some ⟨E+1,0,none⟩)] wr fun e w'=>e=.returned (.tuple #[])∧Res w4 E (r+1) (E+1) r s d.size L (8*((x'.1+7) /8),x'.2) w' from by
     refine(hS.lift (α:=Unit) (res:=.ok ((),(8*((x'.1+7) /8),x'.2))) (V:=Nothing) (fun r1 i1=>(ralign_any' i1.rd (by have:=i1.rd.le;omega)).mono fun e w' (o:Got wr E (E+1) s (.tuple #[]) (galign x'.1) e w')=>⟨o.1,kq o.2.2,r1,.inl rfl,i1.read o.2.2 o.2.1⟩)).mono fun e w' o=>⟨o.1,o.2⟩)
    obtain⟨q0,hq0⟩:∃q0,wr.cell? ⟨r+1,0,none⟩=some (.pointer (some ⟨q0,0,none⟩))∧q0=E+1:=by
     obtain⟨_,_,_,i1⟩:=hS;obtain⟨_,_,_,c0,_⟩:=i1.cells;exact⟨_,c0,rfl⟩
    obtain⟨q1,rfl⟩:=hq0;clear hS;go_wp2_with (go_at_call 56;(with_reducible refine HA.out.mono ?_);rintro e w5 ⟨rfl,o5⟩;have O5:=hid o5;clear o5);obtain⟨k5,r5,hr5,i5⟩:=O5.out;obtain⟨cp5,v3,v4,c0,c1,c2,c3,c4,cf,hy,hm⟩:=i5.cells;have i5d:=i5.same ((Kept.refl NoB w5).drew);have HAt:=hid (at_any i5d.rd);obtain⟨l1,l2⟩:=HLow.out _ k5;have q1:w5.cell? ⟨E,0,none⟩=some (.int .i64 0):=by simp[World.cell?,l2]
    have q2:w5.frozen? ⟨E,0,none⟩=false:=by simp[World.frozen?,l2]
    have hdN:=i5.dl;have hcp:x'.2.length≤cp5:=hy.rb.nc;have hxs:=i5.rd.le;have hyd:Ry w5.drew r5 cp5 x'.2:=hy.of_block rfl;have HR:ansE (.ok ((),x')) d.size=.returned (.tuple #[.string ⟨(x'.2.drop d.size).toArray⟩,.int .i64 (((x'.1+7) /8:Nat):Int),.int .i64 0]):=rfl;obtain⟨a,ha⟩:∃a,8*((x'.1+7) /8)=a:=⟨_,rfl⟩
    obtain⟨U,hU⟩:∃U,(x'.1+7) /8=U:=⟨_,rfl⟩
    simp only[ha] at HAt;rw[hU] at HR;have hdiv:Int.tdiv (a:Int) 8=(U:Int):=by rw[show(a:Int)=8*(U:Int) by omega];exact Int.mul_tdiv_cancel_left _ (by decide)
    have HRr:=hid HR;obtain⟨N,hN⟩:∃N,x'.2.length=N:=⟨_,rfl⟩
    simp only[hN] at c1 hdN hcp;have HL5:=hid (And.intro l1 l2);clear hy k5 i5 i5d hr5 HA HR c2 c3 c4;by_cases hcq:cp5=d.size
    · have hND:N=d.size:=by omega
      have hc:=V.Tx.conv_rb hyd.rb d.size d.size (hN.trans hND) (Nat.le_refl _) ⟨r5,0,none⟩ (c:=0) (fun e=>absurd e (by omega));rw[Nat.sub_self] at hc;have hwU:IntKind.i64.wrap (U:Int)=(U:Int):=IntWalk.i64_in _ ⟨by omega,by omega⟩;rw[hND,hcq] at c1;clear hyd hcq;refine wp_nrm ?_
      go_region_with (go_at_call 57;(with_reducible refine HAt.out.mono ?_);rintro e w6 ⟨rfl,rfl⟩)
      all_goals refine Nrm.back ?_
      all_goals go_wp2_with fail
      all_goals
       refine leaves_cons (f:= 53) (args:= #[.pointer (some ⟨E,0,none⟩)]) (by simp) (by simp[go_sem]) ?_
       refine(catch_idle E _).mono ?_
       rintro e u' w'' ⟨rfl,rfl,rfl⟩;have q3:((w5.setCell ⟨E,0,none⟩ (.int .i64 0)).drew).cell? ⟨E,0,none⟩=some (.int .i64 0):=World.cell?_setCell_same' _ _ _ (by simp[q1]);have hbb:Below w.heap.size w ((w5.setCell ⟨E,0,none⟩ (.int .i64 0)).drew):=by rw[hEe];exact(HL5.out.1.setCell (p:=⟨E,0,none⟩) (Nat.le_refl _) _).drew
       rw[HRr.out];simp[Leaves,settle,results,Tryz.results34,go_sem,q3];exact hbb
    · have hc:=V.Tx.conv_rb hyd.rb d.size N hN (by omega) ⟨r5,d.size,none⟩ (c:=cp5 - d.size) (fun e=>rfl)
      have hcq':¬d.size=cp5:=fun e=>hcq e.symm
      have hwU:IntKind.i64.wrap (U:Int)=(U:Int):=IntWalk.i64_in _ ⟨by omega,by omega⟩;clear hyd;refine wp_nrm ?_
      go_region_with (go_at_call 57;(with_reducible refine HAt.out.mono ?_);rintro e w6 ⟨rfl,rfl⟩)
      all_goals refine Nrm.back ?_
      all_goals go_wp2_with fail
      all_goals
       refine leaves_cons (f:= 53) (args:= #[.pointer (some ⟨E,0,none⟩)]) (by simp) (by simp[go_sem]) ?_
       refine(catch_idle E _).mono ?_
       rintro e u' w'' ⟨rfl,rfl,rfl⟩;have q3:((w5.setCell ⟨E,0,none⟩ (.int .i64 0)).drew).cell? ⟨E,0,none⟩=some (.int .i64 0):=World.cell?_setCell_same' _ _ _ (by simp[q1]);have hbb:Below w.heap.size w ((w5.setCell ⟨E,0,none⟩ (.int .i64 0)).drew):=by rw[hEe];exact(HL5.out.1.setCell (p:=⟨E,0,none⟩) (Nat.le_refl _) _).drew
       rw[HRr.out];simp[Leaves,settle,results,Tryz.results34,go_sem,q3];exact hbb
theorem inflate_neg(d s:ByteArray)(l:Int)(w:World)(hl:l<0):Calls Tryz.prog 17 #[.string d,.string s,.int .i64 l] w fun e w'=>e=.returned (.tuple #[.string ⟨#[]⟩,.int .i64 0,.int .i64 2])∧w=w':=by
 have d0:decide (l<0)=true:=decide_eq_true hl;go_enter Tryz.func17,Tryz.ntmps17;go_wp2;go_ret3;exact⟨rfl,rfl⟩
theorem inflate_any(d s:ByteArray)(L K:Nat)(w:World)(hT:V.Tabs w)(hd:d.size≤32768)(hs:s.size≤100000)(hL:L≤800000000)(hK:8*s.size<K):
 Calls Tryz.prog 17 #[.string d,.string s,.int .i64 L] w fun e w'=>e=ansE (inf K s d.size L (0,d.data.toList)) d.size∧Below w.heap.size w w':=by
 have HR:=hid (read_any d s L K w hT (by omega) hs hL hK);obtain⟨R,hR⟩:∃R,ansE (inf K s d.size L (0,d.data.toList)) d.size=R:=⟨_,rfl⟩
 obtain⟨t,n,c,hRe⟩:∃t n c,R=.returned (.tuple #[.string t,.int .i64 n,.int .i64 c]):=⟨_,_,_,hR.symm⟩
 rw[hR] at HR ⊢;subst hRe;have d0:decide ((L:Int)<0)=false:=decide_eq_false (by omega);have d1:IntKind.i64.wrap ((d.size:Int) - 32768)=(d.size:Int) - 32768:=IntWalk.i64_in _ ⟨by omega,by omega⟩;have d2:max (0:Int) ((d.size:Int) - 32768)=0:=by omega
 have d3:d.extract 0 d.size=d:=ByteArray.extract_zero_size;clear hT hR hK;go_enter Tryz.func17,Tryz.ntmps17;go_wp2_with (go_at_call 34;(with_reducible refine HR.out.mono ?_);rintro e w1 ⟨rfl,b1⟩;have B1:=hid b1;clear b1);go_ret3;exact⟨rfl,B1.out⟩
theorem inf_nought(k:Nat):inf (k+1) ⟨#[3,0,120]⟩ 0 9 (0,[])=.ok ((),(10,[])):=by
 have hl:lok fx 288 ⟨#[3,0,120]⟩ 3=(256,7,0):=lok_is (Tbl.fit (by decide+kernel)) (by decide) (by decide) (by decide) (by decide+kernel);have ht:Tbl fx 288:=by decide+kernel
 have b1:bits 1 ⟨#[3,0,120]⟩ 0 9 (0,[])=.ok (1,(1,[])):=by unfold bits;rw[if_pos (by decide)];rfl
 have b2:bits 2 ⟨#[3,0,120]⟩ 0 9 (1,[])=.ok (1,(3,[])):=by unfold bits;rw[if_pos (by decide)];rfl
 have b3:nxt fx 288 ⟨#[3,0,120]⟩ 0 9 (3,[])=.ok (256,(10,[])):=by unfold nxt;rw[if_pos ht];simp only[hl];rfl
 have b4:sym1 fx 288 (fun _=>5) 32 () ⟨#[3,0,120]⟩ 0 9 (3,[])=.ok (.inr (),(10,[])):=by unfold sym1;rw[bnd_of b3,if_neg (by decide),if_pos rfl];rfl
 have b5:body (k+1) 1 ⟨#[3,0,120]⟩ 0 9 (3,[])=.ok ((),(10,[])):=by unfold body syms;rw[if_neg (by decide),if_pos rfl];exact loop_end b4
 have b6:blk (k+1) () ⟨#[3,0,120]⟩ 0 9 (0,[])=.ok (.inr (),(10,[])):=by unfold blk;rw[bnd_of b1,bnd_of b2,bnd_of b5];rfl
 exact loop_end b6
theorem inf_three(k:Nat):inf (k+1) ⟨#[7]⟩ 0 9 (0,[])=.error 160:=by
 have b1:bits 1 ⟨#[7]⟩ 0 9 (0,[])=.ok (1,(1,[])):=by unfold bits;rw[if_pos (by decide)];rfl
 have b2:bits 2 ⟨#[7]⟩ 0 9 (1,[])=.ok (3,(3,[])):=by unfold bits;rw[if_pos (by decide)];rfl
 have b5:body (k+1) 3 ⟨#[7]⟩ 0 9 (3,[])=.error 160:=rfl;have b6:blk (k+1) () ⟨#[7]⟩ 0 9 (0,[])=.error 160:=by unfold blk;rw[bnd_of b1,bnd_of b2,bnd_er b5]
 exact loop_no b6
theorem inf_short(k:Nat):inf (k+1) ⟨#[3]⟩ 0 9 (0,[])=.error 6:=by
 have h:=inf_cut (K:=k+1) (D:=0) (L:=9) (c:=1) (s:=⟨#[3,0]⟩) (t:=⟨#[3]⟩) (d:=[]) (y:=(10,[])) rfl ?_ rfl (by decide) rfl
 · exact h
 · have:=inf_more (K:=k+1) (D:=0) (L:=9) (L':=9) (n:=2) (s:=⟨#[3,0,120]⟩) (t:=⟨#[3,0]⟩) (b:=⟨#[]⟩) (d:=[]) rfl (inf_nought k) (Nat.le_refl _) rfl rfl
   exact this
structure Ifs(T:World→Prop):Prop where
 keep:∀ {w w':World},T w→Below w.heap.size w w'→T w'
 yes:∀ (d s:ByteArray) (L:Nat) (w:World),T w→d.size≤32768→s.size≤100000→L≤800000000→
  Calls Tryz.prog 17 #[.string d,.string s,.int .i64 L] w fun e w'=>e=ansE (inf 1000000 s d.size L (0,d.data.toList)) d.size∧Below w.heap.size w w'
 neg:∀ (d s:ByteArray) (l:Int) (w:World),T w→l<0→
  Calls Tryz.prog 17 #[.string d,.string s,.int .i64 l] w fun e w'=>e=.returned (.tuple #[.string ⟨#[]⟩,.int .i64 0,.int .i64 2])∧Below w.heap.size w w'
theorem ifs:Ifs V.Tabs where
 keep h b:=h.keep b
 yes d s L w hT hd hs hL:=inflate_any d s L 1000000 w hT hd hs hL (by omega)
 neg d s l w hT hl:=(inflate_neg d s l w hl).mono fun e w' ⟨h1,h2⟩=>⟨h1,h2▸Below.refl _ _⟩
theorem works16{T:World→Prop}(C:Ifs T)(w:World)(H:T w):Calls Tryz.prog 8 #[] w fun e w'=>e=.returned (.bool true)∧Below w.heap.size w w':=by
 have H1:=hid (show Calls Tryz.prog 17 #[.string ⟨#[]⟩,.string ⟨#[3,0,120]⟩,.int .i64 9] w fun e w'=>e=.returned (.tuple #[.string ⟨#[]⟩,.int .i64 2,.int .i64 0])∧Below w.heap.size w w' from by
  have h:=C.yes ⟨#[]⟩ ⟨#[3,0,120]⟩ 9 w H (by decide) (by decide) (by decide);rw[show inf 1000000 ⟨#[3,0,120]⟩ (⟨#[]⟩:ByteArray).size 9 (0,(⟨#[]⟩:ByteArray).data.toList)=_ from inf_nought 999999] at h;exact h)
 have H2:=hid (fun(w':World) (b:Below w.heap.size w w')=>(show Calls Tryz.prog 17 #[.string ⟨#[]⟩,.string ⟨#[7]⟩,.int .i64 9] w' fun e w2=>e=.returned (.tuple #[.string ⟨#[]⟩,.int .i64 0,.int .i64 160])∧Below w'.heap.size w' w2 from by
  have h:=C.yes ⟨#[]⟩ ⟨#[7]⟩ 9 w' (C.keep H b) (by decide) (by decide) (by decide);rw[show inf 1000000 ⟨#[7]⟩ (⟨#[]⟩:ByteArray).size 9 (0,(⟨#[]⟩:ByteArray).data.toList)=_ from inf_three 999999] at h;exact h))
 have H3:=hid (fun(w':World) (b:Below w.heap.size w w')=>(show Calls Tryz.prog 17 #[.string ⟨#[]⟩,.string ⟨#[3]⟩,.int .i64 9] w' fun e w2=>e=.returned (.tuple #[.string ⟨#[]⟩,.int .i64 0,.int .i64 6])∧Below w'.heap.size w' w2 from by
  have h:=C.yes ⟨#[]⟩ ⟨#[3]⟩ 9 w' (C.keep H b) (by decide) (by decide) (by decide);rw[show inf 1000000 ⟨#[3]⟩ (⟨#[]⟩:ByteArray).size 9 (0,(⟨#[]⟩:ByteArray).data.toList)=_ from inf_short 999999] at h;exact h))
 have H4:=hid (fun(w':World) (b:Below w.heap.size w w')=>(show Calls Tryz.prog 17 #[.string ⟨#[]⟩,.string ⟨#[]⟩,.int .i64 (-1)] w' fun e w2=>e=.returned (.tuple #[.string ⟨#[]⟩,.int .i64 0,.int .i64 2])∧Below w'.heap.size w' w2 from
  C.neg ⟨#[]⟩ ⟨#[]⟩ (-1) w' (C.keep H b) (by decide)))
 clear H C;go_enter Tryz.func8,Tryz.ntmps8
 go_wp2_with (first
  |(go_at_call 17;(with_reducible refine H1.out.mono ?_);rintro e w1 ⟨rfl,b1⟩;have B1:=hid b1;clear b1)
  |(go_at_call 17;(with_reducible refine(H2.out _ B1.out).mono ?_);rintro e w2 ⟨rfl,b2⟩;have B2:=hid (B1.out.trans (b2.mono B1.out.size));clear b2)
  |(go_at_call 17;(with_reducible refine(H3.out _ B2.out).mono ?_);rintro e w3 ⟨rfl,b3⟩;have B3:=hid (B2.out.trans (b3.mono B2.out.size));clear b3)
  |(go_at_call 17;(with_reducible refine(H4.out _ B3.out).mono ?_);rintro e w4 ⟨rfl,b4⟩;have B4:=hid (B3.out.trans (b4.mono B3.out.size));clear b4))
 go_ret;exact⟨rfl,B4.out⟩
theorem heavy16_any(d s:ByteArray)(w:World):Calls Tryz.prog 7 #[.string d,.string s] w fun e w'=>e=.returned (.bool (decide (4096<d.size∨1024<s.size)))∧w=w':=by
 obtain⟨b1,hb1⟩:∃b,decide (4096<d.size)=b:=⟨_,rfl⟩
 obtain⟨b2,hb2⟩:∃b,decide (1024<s.size)=b:=⟨_,rfl⟩
 have hb1':decide ((4096:Int)<(d.size:Int))=b1:=by rw[←hb1];exact decide_eq_decide.2 (by omega)
 have hb2':decide ((1024:Int)<(s.size:Int))=b2:=by rw[←hb2];exact decide_eq_decide.2 (by omega)
 rw[Bool.decide_or,hb1,hb2];cases b1<;>cases b2<;>
 · go_enter Tryz.func7,Tryz.ntmps7
   go_wp2;go_ret;exact⟨rfl,rfl⟩
end Go.Proofs.YtdpabanajgegjaaGreatDoor.I
