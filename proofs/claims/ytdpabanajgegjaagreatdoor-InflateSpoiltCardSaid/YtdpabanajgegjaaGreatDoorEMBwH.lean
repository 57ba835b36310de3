/- Texts of one place, one behind the other: BwH, BwI, BwJ. -/
import Derived.Test.YtdpabanajgegjaaGreatDoorEBwG
import Derived.Test.YtdpabanajgegjaaGreatDoorEMDrw
import Derived.Test.YtdpabanajgegjaaGreatDoorEMLwA
import Derived.Laws.Rows
import Derived.Test.YtdpabanajgegjaaGreatDoorEMPkE
set_option linter.unusedVariables false
set_option linter.unusedSimpArgs false
namespace Go.Proofs.YtdpabanajgegjaaGreatDoor.V
open Go Go.RowKit M U
def cs(b:Bool):List Sy→Nat→Nat
 |[],_=>0
 |y::S,j=>cs b S j+if y.d=b∧y.n=j then 1 else 0
theorem cs_append(b:Bool):∀ (S T:List Sy) (j:Nat),cs b (S++T) j=cs b S j+cs b T j
 |[],T,j=>by simp[cs]
 |y::S,T,j=>by simp only[List.cons_append,cs,cs_append b S T j];omega
theorem cs_le(b:Bool):∀ (S:List Sy) (j:Nat),cs b S j≤S.length
 |[],j=>Nat.le_refl _
 |y::S,j=>by have:=cs_le b S j;simp only[cs,List.length_cons];split<;>omega
theorem cs_succ(b:Bool)(S:List Sy)(k:Nat)(hk:k<S.length)(j:Nat):cs b (S.take (k+1)) j=cs b (S.take k) j+if(S.getD k default).d=b∧(S.getD k default).n=j then 1 else 0:=by
 rw[List.take_add_one,List.getD,List.getElem?_eq_getElem hk,cs_append];simp[cs]
theorem sys_in{L:List Tk}(hm:∀t∈L,may t=true)(hg:∀t∈L,t.ok):∀y∈sys L,(y.d=false→y.n<286)∧(y.d=true→y.n<30):=by
 intro y hy;unfold sys at hy;rw[List.mem_append,List.mem_flatMap] at hy;rcases hy with⟨t,ht,hy⟩|hy
 · have h1:=hm t ht
   have h2:=(hg t ht).l;unfold sy1 at hy
   split at hy
   · simp only[List.mem_singleton] at hy
     subst hy;exact⟨fun _=>by simp only;omega,fun h=>by cases h⟩
   · rename_i h0
     have hM:isM t=true:=by
      unfold may at h1;rw[Bool.or_eq_true] at h1;rcases h1 with q|q
      · exact absurd (isB_iff.1 q).1 h0
      · exact q
     have hM2:=isM_iff.1 hM;have i1:=(len_in (n:=t.n.toNat) (by omega)).1;have i2:=(dist_in (n:=t.d.toNat) (by omega)).1;simp only[List.mem_cons,List.not_mem_nil,or_false] at hy;rcases hy with rfl|rfl
     · exact⟨fun _=>by simp only;omega,fun h=>by cases h⟩
     · exact⟨fun h=>(by cases h),fun _=>by simp only;omega⟩
 · simp only[List.mem_singleton] at hy
   subst hy;exact⟨fun _=>by simp only;omega,fun h=>by cases h⟩
theorem sys_len(L:List Tk):(sys L).length≤2*L.length+1:=by
 unfold sys;rw[List.length_append,List.length_singleton];have:=fsy_len L;omega
theorem results_row_tmp{P:Program}{fn:Func}{p u:Tmp}{ty:TypeId}(h:fn.results= #[.cell p ty,.tmp u])(tmps:Array Value)(w:World)(g:Nat)(t:TypeId)(cs:Array Value)(fr:Nat×Nat)(d:TypeDesc)
 (hp:tmps.getD p undef=.pointer (some ⟨g,0,none⟩)) (hg:w.heap[g]? =some (.cells cs t fr))
 (hu:P.underlying ty=some d) (hd:(match d with|.struct _|.array _ _=>true|_=>false)=true) (hi:(P.info? ty).map (·.size)=some cs.size):
 (results fn tmps).run P w=.ok (.tuple #[.agg cs,tmps.getD u undef]) w:=by
 have hp':tmps[p]?.getD undef=.pointer (some ⟨g,0,none⟩):=by simpa using hp
 simp[results,h,hp',asAddr,run_loadVar_row w g t ty cs fr d hg hu hd hi,Sem.run_bind]
structure Bs(w0 w:World)(lb db bs:Nat)(v:Value)(S:List Sy)(f g:Nat→Nat):Prop where
 r:C2 w w0.heap.size (.slice none 0 0) (.slice none 0 0)
 l:Irow w lb 286 (fun i=>(f i:Int))
 d:Irow w db 30 (fun i=>(g i:Int))
 s:Owy bs w v S
 gl:w0.heap.size<lb
 gd:w0.heap.size<db
 ne:lb≠db
 ll:lb<bs
 dl:db<bs
 b:Below w0.heap.size w0 w
section
variable {w0 w:World} {lb db bs:Nat} {v:Value} {S:List Sy} {f g:Nat→Nat}
theorem Bs.setL(h:Bs w0 w lb db bs v S f g)(i x:Nat){f':Nat→Nat}(e:∀j,j<286→f' j=if j=i then x else f j):Bs w0 (w.setCell ⟨lb,i,none⟩ (.int .i64 x)) lb db bs v S f' g:=
 ⟨h.r.other (Nat.ne_of_lt h.gl) _,(h.l.set i x).congr (fun j hj=>by rw[e j hj];split<;>rfl),h.d.other (fun e=>h.ne e.symm) _,h.s.at (fun g hg=>Below.heap_setCell _ _ _ _ (fun e=>by have:=(h.s.lt g hg).1;have:=h.ll;simp only at e;omega)),h.gl,h.gd,h.ne,h.ll,h.dl,h.b.setCell (Nat.le_of_lt h.gl) _⟩
theorem Bs.setD(h:Bs w0 w lb db bs v S f g)(i x:Nat){g':Nat→Nat}(e:∀j,j<30→g' j=if j=i then x else g j):Bs w0 (w.setCell ⟨db,i,none⟩ (.int .i64 x)) lb db bs v S f g':=
 ⟨h.r.other (Nat.ne_of_lt h.gd) _,h.l.other h.ne _,(h.d.set i x).congr (fun j hj=>by rw[e j hj];split<;>rfl),h.s.at (fun g hg=>Below.heap_setCell _ _ _ _ (fun e=>by have:=(h.s.lt g hg).1;have:=h.dl;simp only at e;omega)),h.gl,h.gd,h.ne,h.ll,h.dl,h.b.setCell (Nat.le_of_lt h.gd) _⟩
theorem Bs.congr(h:Bs w0 w lb db bs v S f g){f' g':Nat→Nat}(e:∀j,j<286→f j=f' j)(e2:∀j,j<30→g j=g' j):Bs w0 w lb db bs v S f' g':=
 ⟨h.r,h.l.congr (fun j hj=>by rw[e j hj]),h.d.congr (fun j hj=>by rw[e2 j hj]),h.s,h.gl,h.gd,h.ne,h.ll,h.dl,h.b⟩
theorem Bs.sys{A:Option Addr}{q c:Nat}(h:Bs w0 w lb db bs (.slice A q c) S f g):IsSys w A q S∧q=S.length:=by
 obtain⟨A',c',e,i⟩:=h.s.sys;simp only[Value.slice.injEq] at e;obtain⟨rfl,rfl,rfl⟩:=e;exact⟨i,rfl⟩
end
theorem Irow.start2{w w0:World}{r B:Nat}(hr:C2 w r (.slice none 0 0) (.slice none 0 0))(hb:Below B w0 w)(n m:Nat)(hB:B≤w.heap.size):Irow ((w.alloc (.cells (madeCells #[.int .i64 0] n) 3)).alloc (.cells (madeCells #[.int .i64 0] m) 3)).drew w.heap.size n (fun _=>0)∧Irow ((w.alloc (.cells (madeCells #[.int .i64 0] n) 3)).alloc (.cells (madeCells #[.int .i64 0] m) 3)).drew (w.heap.size+1) m (fun _=>0)∧C2 ((w.alloc (.cells (madeCells #[.int .i64 0] n) 3)).alloc (.cells (madeCells #[.int .i64 0] m) 3)).drew r (.slice none 0 0) (.slice none 0 0)∧Below B w0 ((w.alloc (.cells (madeCells #[.int .i64 0] n) 3)).alloc (.cells (madeCells #[.int .i64 0] m) 3)).drew:=by
 have s0:(w.alloc (.cells (madeCells #[.int .i64 0] n) 3)).heap.size=w.heap.size+1:=by simp
 have q:=Irow.made (w.alloc (.cells (madeCells #[.int .i64 0] n) 3)) m;rw[s0] at q;exact⟨(Irow.made w n).alloc _,q,(hr.alloc _).alloc _,((hb.alloc hB _).alloc (by omega) _).drew⟩
end Go.Proofs.YtdpabanajgegjaaGreatDoor.V
namespace Go.Proofs.YtdpabanajgegjaaGreatDoor.V
open Go.Lib (hid)
open Go Go.RowKit M U
set_option maxRecDepth 1000000 in
set_option maxHeartbeats 8000000 in
theorem best_any(A:Option Addr)(n c:Nat)(L:List Tk)(w:World)(h:IsTks w A n L)(hn:n≤100000)(hm:∀t∈L,may t=true)(m1 m2:Nat)(e1 e2:Nat→Nat×Nat)(l1:IsLv (cs false (sys L)) 286 m1 e1)(l2:IsLv (cs true (sys L)) 30 m2 e2):
 Calls Tryz.prog 42 #[.slice A n c] w fun e w'=> ∃la da,e=.returned (.tuple #[.agg #[.slice (some ⟨la,0,none⟩) 286 286,.slice (some ⟨da,0,none⟩) 30 30],.int .i64 0])∧w.heap.size≤la∧w.heap.size≤da∧Br w' la 286 (pl m1 e1 15)∧Br w' da 30 (pl m2 e2 15)∧Below w.heap.size w w':=by
 have hl:=h.leng;have hin:=sys_in hm h.good;have hsl:=sys_len L;have HSy:=hid (fun W (hb:Below w.heap.size w W)=>syms_any A n c L W (h.below hb) hn hm);obtain⟨S,hS⟩:∃S,sys L=S:=⟨_,rfl⟩
 rw[hS] at l1 l2 hin hsl HSy;obtain⟨q,hq⟩:∃q,S.length=q:=⟨_,rfl⟩
 have hq2:q≤200001:=by omega
 have HQ:=hid hq;have HI:=hid hin;have b1:∀i,cs false S i≤1073741824:=fun i=>by have:=cs_le false S i;omega
 have b2:∀i,cs true S i≤1073741824:=fun i=>by have:=cs_le true S i;omega
 have d1:nds m1≤15:=(nds_le (by omega)).2 (by have:=l1.le;omega);have d2:nds m2≤15:=(nds_le (by omega)).2 (by have:=l2.le;omega);have HL1:=hid (show ∀ (W:World) (lb:Nat),Nums W .i64 (some ⟨lb,0,none⟩) 286 (fun i=>(cs false S i:Int))→Calls Tryz.prog 65 #[.slice (some ⟨lb,0,none⟩) 286 286,.int .i64 15] W (GotLens W 286 m1 15 e1) from fun W lb hh=>rlens_ok _ 286 286 15 m1 _ e1 W (by omega) b1 hh (by omega) (by omega) l1 d1);have HL2:=hid (show ∀ (W:World) (db:Nat),Nums W .i64 (some ⟨db,0,none⟩) 30 (fun i=>(cs true S i:Int))→Calls Tryz.prog 65 #[.slice (some ⟨db,0,none⟩) 30 30,.int .i64 15] W (GotLens W 30 m2 15 e2) from fun W db hh=>rlens_ok _ 30 30 15 m2 _ e2 W (by omega) b2 hh (by omega) (by omega) l2 d2);have HH:=hid h;have HM0:=hid hm;have HL:=hid hl;have hmk1:∀w,(Instr.makeSlice 89 (.int .i64 286) (.int .i64 286)).run Tryz.prog w=.ok (.slice (some ⟨w.heap.size,0,none⟩) 286 286) (w.alloc (.cells (madeCells #[.int .i64 0] 286) 3)):=fun w=>madeInt w 286 (by omega)
 have hmk2:∀w,(Instr.makeSlice 89 (.int .i64 30) (.int .i64 30)).run Tryz.prog w=.ok (.slice (some ⟨w.heap.size,0,none⟩) 30 30) (w.alloc (.cells (madeCells #[.int .i64 0] 30) 3)):=fun w=>madeInt w 30 (by omega)
 have HK1:=hid hmk1;have HK2:=hid hmk2;clear h hm hl hin hsl hS hq b1 b2 d1 d2 l1 l2 hmk1 hmk2;go_enter Tryz.func42,Tryz.ntmps42;go_wp2_with fail
 go_loopw [4] (fun x wr=> ∃i:Nat,i≤n∧x=.int .i64 i∧C2 wr w.heap.size (.slice none 0 0) (.slice none 0 0)∧Below w.heap.size w wr) (fun x _=>n - (intOf x).toNat)
 case atStart=>exact⟨0,Nat.zero_le _,rfl,C2.new _ _ _,(Below.refl _ _).alloc (Nat.le_refl _) _⟩
 case round=>
  obtain⟨i,hi,rfl,hr,hb⟩:=hrel;by_cases hin:i<n
  · have d4:decide ((i:Int)<(n:Int))=true:=decide_eq_true (by omega)
    have d4':decide (i<n)=true:=decide_eq_true hin;have HB:=hid hb;have HR:=hid hr;obtain⟨b,o,rfl,hbl,hc⟩:=(HH.out.below hb).at (by omega);obtain⟨c0,c1,c2⟩:=hc i hin;have hkL:i<L.length:=by rw[HL.out];exact hin
    have hmem:L.getD i default∈L:=by rw[List.getD,List.getElem?_eq_getElem hkL];exact List.getElem_mem _
    have q0:=HM0.out _ hmem;obtain⟨t,ht⟩:∃t,L.getD i default=t:=⟨_,rfl⟩
    rw[ht] at c0 c1 c2 q0;obtain⟨tl,tn,td⟩:=t;simp only at c0 c1 c2;have hM:=rmay_any tl tn td;rw[q0] at hM;have HM:=hid hM;have hi2:i≤100000:=by omega
    clear hM q0 hb hc ht hmem hkL hr;go_wp2_with (go_at_call 64;refine(HM.out _).mono ?_;rintro e w1 ⟨rfl,b1⟩;have R1:=hid (World.rowIs.of_block HR.out (b1.block _ (World.rowIs.lt HR.out)));have B1:=hid (HB.out.trans (b1.mono HB.out.size));clear b1);go_roundw
    case rel=>exact⟨i+1,by omega,by go_num,R1.out,B1.out⟩
    case measure=>(simp[intOf];try omega)
  · obtain rfl:i=n:=by omega
    have d4:decide ((i:Int)<(i:Int))=false:=decide_eq_false (by omega);have d4':decide (i<i)=false:=decide_eq_false (by omega);have hmk1:=HK1.out;have hmk2:=HK2.out;have HB:=hid hb;have HR:=hid hr;clear hb hr;go_wp2_with fail
    go_region
    all_goals clear hmk1 hmk2
    all_goals have hb:=HB.out
    all_goals have hr:=HR.out
    obtain⟨q1,q2,q3,q4⟩:=Irow.start2 hr hb 286 30 hb.size
    have F0:C2 (((wr.alloc (.cells (madeCells #[.int .i64 0] 286) 3)).alloc (.cells (madeCells #[.int .i64 0] 30) 3)).drew) w.heap.size (.slice none 0 0) (.slice none 0 0)∧Irow (((wr.alloc (.cells (madeCells #[.int .i64 0] 286) 3)).alloc (.cells (madeCells #[.int .i64 0] 30) 3)).drew) (wr.heap.size) 286 (fun _=>0)∧Irow (((wr.alloc (.cells (madeCells #[.int .i64 0] 286) 3)).alloc (.cells (madeCells #[.int .i64 0] 30) 3)).drew) (wr.heap.size+1) 30 (fun _=>0)∧w.heap.size<wr.heap.size∧w.heap.size<wr.heap.size+1∧wr.heap.size≠wr.heap.size+1∧wr.heap.size<(((wr.alloc (.cells (madeCells #[.int .i64 0] 286) 3)).alloc (.cells (madeCells #[.int .i64 0] 30) 3)).drew).heap.size∧wr.heap.size+1<(((wr.alloc (.cells (madeCells #[.int .i64 0] 286) 3)).alloc (.cells (madeCells #[.int .i64 0] 30) 3)).drew).heap.size∧Below w.heap.size w (((wr.alloc (.cells (madeCells #[.int .i64 0] 286) 3)).alloc (.cells (madeCells #[.int .i64 0] 30) 3)).drew):=by
     have s2:(((wr.alloc (.cells (madeCells #[.int .i64 0] 286) 3)).alloc (.cells (madeCells #[.int .i64 0] 30) 3)).drew).heap.size=wr.heap.size+1+1:=by simp
     have s3:=World.rowIs.lt hr;exact⟨q3,q1,q2,by omega,by omega,by omega,by omega,by omega,q4⟩
    clear q1 q2 q3 q4;generalize ((wr.alloc (.cells (madeCells #[.int .i64 0] 286) 3)).alloc (.cells (madeCells #[.int .i64 0] 30) 3)).drew=W2 at F0 ⊢;generalize wr.heap.size+1=db at F0 ⊢;generalize wr.heap.size=lb at F0 ⊢;rotate_left;obtain⟨q1,q2,q3,q4⟩:=Irow.start2 hr hb 30 286 hb.size
    have F0:C2 (((wr.alloc (.cells (madeCells #[.int .i64 0] 30) 3)).alloc (.cells (madeCells #[.int .i64 0] 286) 3)).drew) w.heap.size (.slice none 0 0) (.slice none 0 0)∧Irow (((wr.alloc (.cells (madeCells #[.int .i64 0] 30) 3)).alloc (.cells (madeCells #[.int .i64 0] 286) 3)).drew) (wr.heap.size+1) 286 (fun _=>0)∧Irow (((wr.alloc (.cells (madeCells #[.int .i64 0] 30) 3)).alloc (.cells (madeCells #[.int .i64 0] 286) 3)).drew) (wr.heap.size) 30 (fun _=>0)∧w.heap.size<wr.heap.size+1∧w.heap.size<wr.heap.size∧wr.heap.size+1≠wr.heap.size∧wr.heap.size+1<(((wr.alloc (.cells (madeCells #[.int .i64 0] 30) 3)).alloc (.cells (madeCells #[.int .i64 0] 286) 3)).drew).heap.size∧wr.heap.size<(((wr.alloc (.cells (madeCells #[.int .i64 0] 30) 3)).alloc (.cells (madeCells #[.int .i64 0] 286) 3)).drew).heap.size∧Below w.heap.size w (((wr.alloc (.cells (madeCells #[.int .i64 0] 30) 3)).alloc (.cells (madeCells #[.int .i64 0] 286) 3)).drew):=by
     have s2:(((wr.alloc (.cells (madeCells #[.int .i64 0] 30) 3)).alloc (.cells (madeCells #[.int .i64 0] 286) 3)).drew).heap.size=wr.heap.size+1+1:=by simp
     have s3:=World.rowIs.lt hr;exact⟨q3,q2,q1,by omega,by omega,by omega,by omega,by omega,q4⟩
    clear q1 q2 q3 q4;generalize ((wr.alloc (.cells (madeCells #[.int .i64 0] 30) 3)).alloc (.cells (madeCells #[.int .i64 0] 286) 3)).drew=W2 at F0 ⊢;generalize wr.heap.size+1=lb at F0 ⊢;generalize wr.heap.size=db at F0 ⊢;rotate_left
    all_goals (
     obtain⟨f1,f2,f3,f4,f5,f6,f7,f8,f9⟩:=F0;have HF1:=hid f1;have HF2:=hid f2;have HF3:=hid f3;have HF4:=hid (show w.heap.size<lb∧w.heap.size<db∧lb≠db∧lb<W2.heap.size∧db<W2.heap.size from⟨f4,f5,f6,f7,f8⟩);have HF9:=hid f9;clear f1 f2 f3 f4 f5 f6 f7 f8 f9 hb hr HB HR;go_wp2_with (go_at_call 62;(with_reducible refine(HSy.out W2 HF9.out).mono ?_);rintro e W3 ⟨v3,rfl,o3,b3⟩;obtain⟨A3,c3,rfl,i3⟩:=o3.sys;rw[HQ.out] at o3;have HBs:=hid (Bs.mk (f:=fun _=>0) (g:=fun _=>0) (World.rowIs.of_block HF1.out (b3.block _ (World.rowIs.lt HF1.out))) (HF2.out.below b3 HF2.out.lt) (HF3.out.below b3 HF3.out.lt) o3 HF4.out.1 HF4.out.2.1 HF4.out.2.2.1 HF4.out.2.2.2.1 HF4.out.2.2.2.2 (HF9.out.trans (b3.mono HF9.out.size)));rw[HQ.out];clear o3 i3 b3)
     go_loopw [8] (fun x wr=> ∃k:Nat,k≤q∧x=.int .i64 k∧Bs w wr lb db W2.heap.size (.slice A3 q c3) S (cs false (S.take k)) (cs true (S.take k))) (fun x _=>q - (intOf x).toNat)
     case atStart=>exact⟨0,Nat.zero_le _,rfl,HBs.out⟩
     case round=>
      obtain⟨k,hk,rfl,hB⟩:=hrel;have HBk:=hid hB;have hk3:k≤200001:=by omega
      by_cases hlt:k<q
      · have d5:decide ((k:Int)<(q:Int))=true:=decide_eq_true (by omega)
        have d5':decide (k<q)=true:=decide_eq_true hlt;obtain⟨b,o,rfl,hbl,hc⟩:=hB.sys.1.at (by omega);obtain⟨c0,c1,c2,c3'⟩:=hc k hlt;have hkL:k<S.length:=by rw[HQ.out];exact hlt
        have hmem:S.getD k default∈S:=by rw[List.getD,List.getElem?_eq_getElem hkL];exact List.getElem_mem _
        have hin2:=HI.out _ hmem;have t1:=cs_succ false S k hkL;have t2:=cs_succ true S k hkL;obtain⟨y,hy⟩:∃y,S.getD k default=y:=⟨_,rfl⟩
        rw[hy] at c0 c1 hin2 t1 t2;obtain⟨yd,yn,ye,yb⟩:=y;simp only at c0 c1 hin2 t1 t2;cases yd with
        |true=>
         have hyn:yn<30:=hin2.2 rfl;have ct:=hB.d.cell hyn;have cf:=hB.d.frozen yn;have hct:=cs_le true (S.take k) yn;rw[List.length_take] at hct;obtain⟨u,hu⟩:∃u,cs true (S.take k) yn=u:=⟨_,rfl⟩
         rw[hu] at ct hct;have hu2:u≤200001:=by omega
         have HN:=(hB.setD yn (u+1) (g':=cs true (S.take (k+1))) (fun j hj=>by
          rw[t2 j];by_cases e:j=yn
          · subst e;rw[if_pos ⟨rfl,rfl⟩,if_pos rfl,hu]
          · rw[if_neg (fun hh=>e hh.2.symm),if_neg e,Nat.add_zero])).congr (f':=cs false (S.take (k+1))) (fun j hj=>by rw[t1 j,if_neg (fun hh=>by cases hh.1),Nat.add_zero]) (fun _ _=>rfl)
         rw[show((u+1:Nat):Int)=(u:Int)+1 by omega] at HN;have HN2:=hid HN;clear HN hB hc c2 c3' hkL hmem hin2 t1 t2 hy hu hct;go_wp2_with fail;go_roundw
         case rel=>exact⟨k+1,by omega,by go_num,HN2.out⟩
         case measure=>(simp[intOf];try omega)
        |false=>
         have hyn:yn<286:=hin2.1 rfl;have ct:=hB.l.cell hyn;have cf:=hB.l.frozen yn;have hct:=cs_le false (S.take k) yn;rw[List.length_take] at hct;obtain⟨u,hu⟩:∃u,cs false (S.take k) yn=u:=⟨_,rfl⟩
         rw[hu] at ct hct;have hu2:u≤200001:=by omega
         have HN:=(hB.setL yn (u+1) (f':=cs false (S.take (k+1))) (fun j hj=>by
          rw[t1 j];by_cases e:j=yn
          · subst e;rw[if_pos ⟨rfl,rfl⟩,if_pos rfl,hu]
          · rw[if_neg (fun hh=>e hh.2.symm),if_neg e,Nat.add_zero])).congr (g':=cs true (S.take (k+1))) (fun _ _=>rfl) (fun j hj=>by rw[t2 j,if_neg (fun hh=>by cases hh.1),Nat.add_zero])
         rw[show((u+1:Nat):Int)=(u:Int)+1 by omega] at HN;have HN2:=hid HN;clear HN hB hc c2 c3' hkL hmem hin2 t1 t2 hy hu hct;go_wp2_with fail;go_roundw
         case rel=>exact⟨k+1,by omega,by go_num,HN2.out⟩
         case measure=>(simp[intOf];try omega)
      · obtain rfl:k=q:=by omega
        have d5:decide ((k:Int)<(k:Int))=false:=decide_eq_false (by omega);have d5':decide (k<k)=false:=decide_eq_false (by omega);have hT:S.take k=S:=List.take_of_length_le (by rw[HQ.out];exact Nat.le_refl _);rw[hT] at hB;have HR4:=hid hB.r;have HL4:=hid hB.l;have HD4:=hid hB.d;have HB4:=hid hB.b;clear hB HBk HBs hT
        go_wp2_with (first
         |(go_at_call 65;(with_reducible refine(HL1.out _ lb HL4.out.nums).mono ?_);rintro e W5 ⟨g1,rfl,ge1,br1,b5⟩;have HR5:=hid (World.rowIs.of_block HR4.out (b5.block _ (World.rowIs.lt HR4.out)));have HD5:=hid (HD4.out.below b5 HD4.out.lt);have HB5:=hid (HB4.out.trans (b5.mono HB4.out.size));have HG1:=hid (show w.heap.size≤g1 from Nat.le_trans HB4.out.size ge1);have HS5:=hid (show w.heap.size<wr.heap.size from by have:=World.rowIs.lt HR4.out;exact this);have HGG:=hid (show w.heap.size<g1 from Nat.lt_of_lt_of_le HS5.out ge1);have HBr1:=hid br1;clear ge1 br1 b5)
         |(go_at_call 65;(with_reducible refine(HL2.out _ db HD5.out.nums).mono ?_);rintro e W6 ⟨g2,rfl,ge2,br2,b6⟩;have hr6:=World.rowIs.of_block HR5.out (b6.block _ (World.rowIs.lt HR5.out));have HR6:Hid (C2 W6 w.heap.size (.slice none 0 0) (.slice none 0 0)):=hid hr6;have HB6:=hid (HB5.out.trans (b6.mono HB5.out.size));have HG2:=hid (show w.heap.size<g2 from Nat.lt_of_lt_of_le (World.rowIs.lt HR5.out) ge2);have HBr2:=hid br2;have HBr3:=hid (HBr1.out.below b6 HBr1.out.lt);have r0:=HR6.out.at0;have r1:=HR6.out.at1;have g0:=HR6.out.frozen 0;have g1':=HR6.out.frozen 1;clear ge2 br2 b6 hr6))
        refine bodyPost_ret (v:=.tuple #[.agg #[.slice (some ⟨g1,0,none⟩) 286 286,.slice (some ⟨g2,0,none⟩) 30 30],.int .i64 0]) (results_row_tmp (p:=2) (u:=3) (ty:= 77) rfl _ _ w.heap.size _ _ _ _ rfl (HR6.out.put _ _).row Tryz.underlying77 rfl codesSize) rfl ⟨g1,g2,rfl,HG1.out,Nat.le_of_lt HG2.out,(HBr3.out.other (fun e=>Nat.ne_of_lt HGG.out e.symm) _).other (fun e=>Nat.ne_of_lt HGG.out e.symm) _,(HBr2.out.other (fun e=>Nat.ne_of_lt HG2.out e.symm) _).other (fun e=>Nat.ne_of_lt HG2.out e.symm) _,(HB6.out.setCell (Nat.le_refl _) _).setCell (Nat.le_refl _) _⟩)
end Go.Proofs.YtdpabanajgegjaaGreatDoor.V
namespace Go.Proofs.YtdpabanajgegjaaGreatDoor.V
open Go Go.RowKit M U
def wsy(l1:Nat→Nat)(n1:Nat)(l2:Nat→Nat)(n2:Nat)(y:Sy):List Nat:=(if y.d=true then cdb (cod l2 n2 y.n) (l2 y.n) else cdb (cod l1 n1 y.n) (l1 y.n))++put y.e y.b
structure Fine(l:Nat→Nat)(n:Nat):Prop where
 may:May l n
 wt:weight l n≤32768
 byte:∀i,l i≤255
theorem Fine.erc{l:Nat→Nat}{n:Nat}(h:Fine l n):M.erc l n=0∧outn l n=n:=by
 have hk:=kind_of h.may;have hw:=h.wt
 have h5:kind l n≠5∧kind l n≠4:=by
  rw[hk];constructor
  · split
    · omega
    · split
      · omega
      · split
        · omega
        · split<;>omega
  · split
    · omega
    · split
      · omega
      · split
        · omega
        · split<;>omega
 have e0:M.erc l n=0:=by unfold M.erc;rw[if_neg h5.1,if_neg h5.2]
 exact⟨e0,by unfold outn;rw[if_pos e0]⟩
theorem Crow.at'{w w':World}{b n:Nat}{F G:Nat→Nat}(h:C.Crow w b n F G)(e:w'.heap[b]? =w.heap[b]?):C.Crow w' b n F G:=by
 obtain⟨c,h1,h2⟩:=h;exact⟨c,e.trans h1,h2⟩
theorem Chg.drew{P:Nat}{g g':Option Nat}{w w':World}(h:Chg P g w g' w'):Chg P g w g' w'.drew:=h.trans (Chg.of_below (Below.refl w'.heap.size w').drew)
theorem Bw.apart{B P:Nat}{w w':World}{v:Value}{bs:List Nat}(h:Bw B w P v bs){b:Nat}(hb:w.heap.size≤b)(hb2:b<w'.heap.size):Ap P v.ownBlock w' b:=by
 refine⟨hb2,?_,fun e=> ?_⟩
 · have:=h.lt;omega
 · have:=(World.ownsRow.lt h.ow b e).2;omega
structure Ss(B:Nat)(w:World)(P:Nat)(v:Value)(bs:List Nat)(ba:Nat)(l1:Nat→Nat)(n1 bb:Nat)(l2:Nat→Nat)(n2 Z sb q c:Nat)(S:List Sy):Prop where
 wr:Bw B w P v bs
 a:C.Crow w ba n1 (cod l1 n1) l1
 b:C.Crow w bb n2 (cod l2 n2) l2
 s:Owy Z w (.slice (some ⟨sb,0,none⟩) q c) S
 q:S.length=q
 pa:Ap P v.ownBlock w ba
 pb:Ap P v.ownBlock w bb
 ps:Ap P v.ownBlock w sb
section
variable {B P ba n1 bb n2 Z sb q c:Nat} {w w':World} {v v':Value} {bs bs':List Nat} {l1 l2:Nat→Nat} {S:List Sy}
theorem Ss.chg(h:Ss B w P v bs ba l1 n1 bb l2 n2 Z sb q c S)(k:Chg P v.ownBlock w v'.ownBlock w')(hb:Bw B w' P v' bs'):Ss B w' P v' bs' ba l1 n1 bb l2 n2 Z sb q c S:=
 ⟨hb,Crow.at' h.a (h.pa.chg k).2,Crow.at' h.b (h.pb.chg k).2,h.s.at (fun g hg=>by
  have e:sb=g:=by simpa [Value.ownBlock] using hg
  rw[←e];exact(h.ps.chg k).2),h.q,(h.pa.chg k).1,(h.pb.chg k).1,(h.ps.chg k).1⟩
theorem Ss.drew(h:Ss B w P v bs ba l1 n1 bb l2 n2 Z sb q c S):Ss B w.drew P v bs ba l1 n1 bb l2 n2 Z sb q c S:=
 h.chg (Chg.of_below (Below.refl w.heap.size w).drew) (h.wr.below (Below.refl w.heap.size w).drew)
theorem Ss.cells(h:Ss B w P v bs ba l1 n1 bb l2 n2 Z sb q c S){k:Nat}(hk:k<q):w.cell? ⟨sb,k*4,none⟩=some (.bool (S.getD k default).d)∧w.cell? ⟨sb,k*4+1,none⟩=some (.int .i64 ((S.getD k default).n:Nat))∧w.cell? ⟨sb,k*4+2,none⟩=some (.int .i64 ((S.getD k default).e:Nat))∧w.cell? ⟨sb,k*4+3,none⟩=some (.int .i64 ((S.getD k default).b:Nat)):=by
 obtain⟨A',c',e,i⟩:=h.s.sys;simp only[Value.slice.injEq] at e;obtain⟨rfl,e2,rfl⟩:=e;obtain⟨b,o,e3,_,hc⟩:=i.at (by omega);simp only[Option.some.injEq,Addr.mk.injEq,and_true] at e3;obtain⟨rfl,rfl⟩:=e3;have:=hc k (by omega);simp only[Nat.zero_add] at this;exact this
end
theorem Owy.own{Z:Nat}{w:World}{v:Value}{S:List Sy}(h:Owy Z w v S)(hS:0<S.length):∃sb cap,v=.slice (some ⟨sb,0,none⟩) S.length cap∧Z≤sb∧sb<w.heap.size:=by
 rcases h.2 with⟨_,h0⟩|⟨g,cap,cur,rfl,hZ,hh,_⟩
 · omega
 · exact⟨g,cap,rfl,hZ,(Array.getElem?_eq_some_iff.1 hh).1⟩
theorem sys_b{L:List Tk}(hm:∀t∈L,may t=true):∀y∈sys L,y.b≤13∧y.e≤32768:=by
 intro y hy;unfold sys at hy;rw[List.mem_append,List.mem_flatMap] at hy;rcases hy with⟨t,ht,hy⟩|hy
 · have h1:=hm t ht
   unfold sy1 at hy
   split at hy
   · simp only[List.mem_singleton] at hy
     subst hy;simp
   · rename_i h0
     have hM:isM t=true:=by
      unfold may at h1;rw[Bool.or_eq_true] at h1;rcases h1 with q|q
      · exact absurd (isB_iff.1 q).1 h0
      · exact q
     have hM2:=isM_iff.1 hM;have i1:=(len_in (n:=t.n.toNat) (by omega)).1;have i2:=(dist_in (n:=t.d.toNat) (by omega)).1;have j1:=lb_le _ i1;have j2:=db_le _ i2;have x1:lex t.n.toNat≤t.n.toNat:=Nat.sub_le _ _;have x2:dex t.d.toNat≤t.d.toNat:=Nat.sub_le _ _;simp only[List.mem_cons,List.not_mem_nil,or_false] at hy;rcases hy with rfl|rfl
     · exact⟨by simp only;omega,by simp only;omega⟩
     · exact⟨by simp only;omega,by simp only;omega⟩
 · simp only[List.mem_singleton] at hy
   subst hy;simp
theorem wsy_len(l1:Nat→Nat)(n1:Nat)(l2:Nat→Nat)(n2:Nat)(y:Sy)(h1:l1 y.n≤255)(h2:l2 y.n≤255)(hb:y.b≤13):(wsy l1 n1 l2 n2 y).length≤268:=by
 unfold wsy;rw[List.length_append,put_length]
 split<;>rw[cdb_length]<;>omega
theorem wss_len(l1:Nat→Nat)(n1:Nat)(l2:Nat→Nat)(n2:Nat)(h1:∀i,l1 i≤255)(h2:∀i,l2 i≤255):∀ (S:List Sy),(∀y∈S,y.b≤13)→(S.flatMap (wsy l1 n1 l2 n2)).length≤268*S.length
 |[],_=>by simp
 |y::S,hS=>by
  rw[List.flatMap_cons,List.length_append,List.length_cons];have:=wsy_len l1 n1 l2 n2 y (h1 _) (h2 _) (hS y (by simp));have:=wss_len l1 n1 l2 n2 h1 h2 S (fun z hz=>hS z (by simp[hz]));omega
theorem wss_succ(f:Sy→List Nat)(S:List Sy)(k:Nat)(hk:k<S.length):(S.take (k+1)).flatMap f=(S.take k).flatMap f++f (S.getD k default):=by
 rw[List.take_add_one,List.getD,List.getElem?_eq_getElem hk,List.flatMap_append];simp
end Go.Proofs.YtdpabanajgegjaaGreatDoor.V
