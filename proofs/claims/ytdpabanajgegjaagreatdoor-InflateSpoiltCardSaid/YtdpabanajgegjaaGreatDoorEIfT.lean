import Derived.Test.YtdpabanajgegjaaGreatDoorEMIfP
import Derived.Test.YtdpabanajgegjaaGreatDoorEMYsD
namespace Go.Proofs.YtdpabanajgegjaaGreatDoor.I
open Go.Lib (hid)
set_option maxRecDepth 1000000
open Go Go.RowKit M
set_option linter.unusedVariables false
set_option linter.unusedSimpArgs false
section
variable {w:World} {B g q r D L:Nat} {s:ByteArray} {x:St}
theorem Kept.ch_trans{w w1 w2:World}{g q r r1:Nat}(h:Kept (Ch g q r) w w1)(k:Kept (Ch g q r1) w1 w2)(hr:r1=r∨w.heap.size≤r1):Kept (Ch g q r) w w2:=
 h.trans k fun j hj=>by
  rcases hj with e|e|e
  · exact .inl (.inl e)
  · exact .inl (.inr (.inl e))
  · rcases hr with e'|e'
    · exact .inl (.inr (.inr (e.trans e')))
    · exact .inr (by omega)
theorem Res.trans{w w1 w2:World}{y z:St}{r1:Nat}(h:Kept (Ch g q r) w w1)(hr:r1=r∨w.heap.size≤r1)(k:Res w1 B g q r1 s D L z w2):Res w B g q r s D L z w2:=by
 obtain⟨k1,r2,h2,k2⟩:=k;refine⟨Kept.ch_trans h k1 hr,r2,?_,k2⟩;have:=h.size;rcases h2 with e|e
 · rcases hr with e'|e'
   · exact .inl (e.trans e')
   · exact .inr (by omega)
 · exact .inr (by omega)
theorem ry_alloc{w:World}{g cp:Nat}{bs:List UInt8}(h:Ry w g cp bs)(o:Obj):Ry (w.drew.alloc o) g cp bs:=h.of_block (Below.heap_alloc w.drew _ _ h.lt)
set_option maxHeartbeats 2000000 in
theorem match_c(h:In w B g q r s D L x)(t k:Nat)(ht:1≤t∧t≤32768)(hk:k≤258)(hL:L≤1000000000)(hx:x.2.length≤900000000):
 Calls Tryz.prog 138 #[.pointer (some ⟨g,0,none⟩),.int .i64 k,.int .i64 t] w (Out w B g q r s D L (copy t k s D L x) Nothing):=by
 obtain⟨cp,v3,v4,c0,c1,c2,c3,c4,cf,hy,hm⟩:=h.cells;have HI:=hid h;obtain⟨m,hmm⟩:∃m,x.2.length=m:=⟨_,rfl⟩
 rw[hmm] at c1 hx;by_cases hf:m<t
 · have e:copy t k s D L x=.error 164:=by unfold copy;rw[hmm,if_pos hf]
   rw[e];have d0:decide ((m:Int)<(t:Int))=true:=decide_eq_true (by omega);have d1:decide (m<t)=true:=decide_eq_true hf;clear h hy hm c0 c2 c3 c4 cf e hf hmm;go_enter Tryz.func138,Tryz.ntmps138;go_wp2_with (go_at_call 92;(with_reducible refine(fail_164 _).mono ?_);rintro e w2 ⟨rfl,k2⟩;have K2:=hid k2;clear k2);exact⟨rfl,rfl,K2.out.none _⟩
 · have d0:decide ((m:Int)<(t:Int))=false:=decide_eq_false (by omega)
   have d1:decide (m<t)=false:=decide_eq_false hf;by_cases hl:L<m - D+k
   · have e:copy t k s D L x=.error 5:=by unfold copy;rw[hmm,if_neg hf,if_pos hl]
     rw[e];have HT:=hid (take_no h (k:=k) (by omega) (by rw[hmm];exact hl));clear h hy hm c0 c2 c3 c4 cf e hf hmm hl;go_enter Tryz.func138,Tryz.ntmps138;go_wp2_with (go_at_call 131;(with_reducible refine HT.out.mono ?_);rintro e w2 ⟨rfl,k2⟩;have K2:=hid k2;clear k2);exact⟨rfl,rfl,K2.out.none _⟩
   · have e:copy t k s D L x=.ok ((),(x.1,gr x.2 t k)):=by unfold copy;rw[hmm,if_neg hf,if_neg hl]
     rw[e];have HT:=hid (take_yes h (k:=k) hL (by rw[hmm];exact hl));obtain⟨cp0,hir⟩:=h.ir;obtain⟨hir1,hk1⟩:=hir.setZ ((L:Int) - ((x.2.length - D+k:Nat):Int));have hdl:=h.dl;have hlx:=h.ll;have hzE:(L:Int) - ((x.2.length - D+k:Nat):Int)=(L:Int) - (((gr x.2 t k).length - D:Nat):Int):=by rw[gr_length];omega
     have hlE:(gr x.2 t k).length - D≤L:=by rw[gr_length,hmm];omega
     have hdE:D≤(gr x.2 t k).length:=by rw[gr_length];omega
     have HE:=hid (fun(W:World) (r' cp':Nat) (hI:Ir W B g q r' s ((L:Int) - ((x.2.length - D+k:Nat):Int)) cp' (x.1,gr x.2 t k))=>hI.in_ (D:=D) (L:=L) hzE hdE hlE);obtain⟨Z,hZ⟩:∃Z:Int,(L:Int) - ((x.2.length - D+k:Nat):Int)=Z:=⟨_,rfl⟩
     rw[hZ] at HT hir1 hk1 HE;obtain⟨w1,hw1⟩:∃w1,w.setCell ⟨g,2,none⟩ (.int .i64 Z)=w1:=⟨_,rfl⟩
     rw[hw1] at HT hir1 hk1;have HI1:=hid hir1;have HK1:=hid (hk1.mono (T:=Ch g q r) (fun j e=> .inl e));clear h hy hm c0 c2 c3 c4 cf e hl hir hir1 hk1 hdl hlx hzE hlE hdE hw1 hZ;go_enter Tryz.func138,Tryz.ntmps138;go_wp2_with (go_at_call 131;(with_reducible refine HT.out.mono ?_);rintro e w2 ⟨rfl,rfl⟩)
     go_loopw [18] (fun i wr=> ∃j:Nat,j≤k∧i=.int .i64 j∧∃r' cp',(r'=r∨w.heap.size≤r')∧Ir wr B g q r' s Z cp' (x.1,gr x.2 t j)∧Kept (Ch g q r) w wr) (fun i _=>k - (intOf i).toNat)
     case atStart=>exact⟨0,Nat.zero_le _,rfl,r,cp0,.inl rfl,HI1.out,HK1.out⟩
     case round=>
      obtain⟨j,hj,rfl,r1,cp1,hr1,hI,hK⟩:=hrel;have hgl:=gr_length x.2 t j;rw[hmm] at hgl;obtain⟨M,hM⟩:∃M,m+j=M:=⟨_,rfl⟩
      rw[hM] at hgl;obtain⟨k0,k1,kf⟩:=hI.cells;simp only at k1;rw[hgl] at k1;have kf1:=kf 1;clear d0 d1;by_cases hlt:j<k
      · obtain⟨u,hu⟩:∃u,M - t=u:=⟨_,rfl⟩
        have hM8:M≤900000258:=by omega
        have y1:IntKind.i64.wrap ((M:Int) - (t:Int))=(u:Int):=by rw[IntWalk.i64_in _ ⟨by omega,by omega⟩];omega
        have y2:IntKind.i64.wrap (u:Int)=(u:Int):=by rw[IntWalk.i64_in _ ⟨by omega,by omega⟩]
        have hu2:u<M:=by omega
        have hgx:(gr x.2 t j)[u]? =some ((gr x.2 t j).getD u 0):=by rw[List.getD,List.getElem?_eq_getElem (by omega)];rfl
        have hstep:gr x.2 t (j+1)=gr x.2 t j++[(gr x.2 t j).getD u 0]:=by
         show gr x.2 t j++[(gr x.2 t j).getD ((gr x.2 t j).length - t) 0]=_
         rw[hgl,hu]
        have wx:=hI.ry.byte u _ hgx;obtain⟨b,hb⟩:∃b,(gr x.2 t j).getD u 0=b:=⟨_,rfl⟩
        rw[hb] at wx hstep;have HI2:=hid hI;have HK2:=hid hK;have HG:=hid hgl;have HST:=hid hstep;have HR1:=hid hr1;have hg9:=hI.glt;have wab:∀o:Obj,(wr.alloc o).cell? ⟨g,1,none⟩=some (.slice (some ⟨r1,0,none⟩) M cp1):=fun o=>(World.cell?_of_block (a:=⟨g,1,none⟩) (Below.heap_alloc _ _ _ hg9)).trans k1
        clear hI hgl hstep hb hgx hM hu hK hr1 kf hf;go_wp2_with fail
        go_region_law (refine step_ay1 rfl (.tmp 24) (.tmp 38) rfl r1 M cp1 (gr x.2 t j) (by simp[Act.eval]) (ry_alloc HI2.out.ry _) HG.out ⟨wr.heap.size,0,none⟩ 1 b (by simp[Act.eval]) (by simp) (by omega) ?_;intro g' cp' w4 r2 gr4 o4;have HL4:=hid (HI2.out.app (((Kept.refl NoB wr).drew).alloc _) r2 gr4 o4 (n:=M+1) (by rw[List.length_append,HG.out];rfl));have w4b:=(gr4.block g (by simp;omega) (by intro e;injection e with e;exact HI2.out.gr e));have w4a:=World.frozen?_of_block (a:=⟨g,1,none⟩) w4b;have w4f:=w4a.trans ((World.frozen?_of_block (a:=⟨g,1,none⟩) (Below.heap_alloc _ _ _ hg9)).trans kf1);have w4c:=(World.cell?_of_block (a:=⟨g,1,none⟩) w4b).trans (wab _);clear w4b w4a r2 gr4 o4)
        all_goals
         clear wab wx;have HL5:=hid HL4.out;clear HL4;rw[←HST.out] at HL5;go_wp2_with fail;go_roundw
         case rel=>exact⟨j+1,by omega,by go_num,g',cp',by
          rcases HL5.out.2.2 with e|e
          · rcases HR1.out with e'|e'
            · exact .inl (e.trans e')
            · exact .inr (by omega)
          · have:=HK2.out.size;exact .inr (by omega),HL5.out.1,Kept.ch_trans HK2.out HL5.out.2.1 HR1.out⟩
         case measure=>simp[intOf];omega
      · obtain rfl:j=k:=by omega
        have HI2:=hid hI;have HK2:=hid hK;have HR1:=hid hr1;clear hI hgl hM hK hr1;go_wp2_with fail;go_end0;exact⟨rfl,HK2.out,r1,HR1.out,HE.out _ _ _ HI2.out⟩
end
end Go.Proofs.YtdpabanajgegjaaGreatDoor.I
