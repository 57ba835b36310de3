import Derived.Test.YthgilhebnlglkaaGreatDoorEMIfP
import Derived.Test.YthgilhebnlglkaaGreatDoorEMYsD
set_option linter.all false
set_option maxHeartbeats 8000000
set_option maxRecDepth 1000000
open Go.Proofs.Tryz
namespace Go.Proofs.YthgilhebnlglkaaGreatDoor.I
open Go Go.RowKit M
section
variable {w:World} {B g q r D L:Nat} {s:ByteArray} {x:St}
theorem Kept.ch_trans{w w1 w2:World}{g q r r1:Nat}(h:Kept (Ch g q r) w w1)(k:Kept (Ch g q r1) w1 w2)(hr:r1=r\/w.heap.size<=r1):Kept (Ch g q r) w w2:=
 h.trans k λj hj=>by
  rcases hj with e|e|e
  · exact .inl (.inl e)
  · exact .inl (.inr (.inl e))
  · rcases hr with e'|e'
    · exact .inl (.inr (.inr (e.trans e')))
    · exact .inr (by omega)
theorem Res.trans{w w1 w2:World}{y z:St}{r1:Nat}(h:Kept (Ch g q r) w w1)(hr:r1=r\/w.heap.size<=r1)(k:Res w1 B g q r1 s D L z w2):Res w B g q r s D L z w2:=by
 obtain⟨k1,r2,h2,k2⟩:=k;refine⟨Kept.ch_trans h k1 hr,r2,?_,k2⟩;have:=h.size;rcases h2 with e|e
 · rcases hr with e'|e'
   · exact .inl (e.trans e')
   · exact .inr (by omega)
 · exact .inr (by omega)
theorem z7h{w:World}{g cp:Nat}{bs:List UInt8}(h:Ry w g cp bs)(o:Obj):Ry (w.drew.alloc o) g cp bs:=h.of_block (Below.heap_alloc w.drew _ _ h.lt)
theorem zh3(h:In w B g q r s D L x)(t k:Nat)(ht:1<=t/\t<=32768)(hk:k<=258)(hL:L<=1000000000)(hx:x.2.length<=900000000):
 Calls prog 219 #[.pointer (some ⟨g,0,none⟩),.int .i64 k,.int .i64 t] w (Out w B g q r s D L (copy t k s D L x) z1G):=by
 obtain⟨cp,v3,v4,c0,c1,c2,c3,c4,cf,hy,hm⟩:=h.cells;obtain⟨m,hmm⟩:∃m,x.2.length=m:=⟨_,rfl⟩
 rw[hmm] at c1 hx;by_cases hf:m<t
 · have e:copy t k s D L x=.error 164:=by unfold copy;rw[hmm,if_pos hf]
   rw[e];have d1:decide (m<t)=true:=q9T hf;clear h hy hm c0 c2 c3 c4 cf e hf hmm;go_enter func219,ntmps219;go_wp2_with (go_at_call 171;(with_reducible refine(zeh _).mono ?_);rintro e w2 ⟨rfl,k2⟩;have K2:=qH k2;clear k2);exact⟨rfl,rfl,K2.o.none _⟩
 · have d1:decide (m<t)=false:=qF hf
   by_cases hl:L<m - D+k
   · have e:copy t k s D L x=.error 5:=by unfold copy;rw[hmm,if_neg hf,if_pos hl]
     rw[e];have HT:=qH (take_no h (k:=k) (by omega) (by rw[hmm];exact hl));clear h hy hm c0 c2 c3 c4 cf e hf hmm hl;go_enter func219,ntmps219;go_wp2_with (go_at_call 212;(with_reducible refine HT.o.mono ?_);rintro e w2 ⟨rfl,k2⟩;have K2:=qH k2;clear k2);exact⟨rfl,rfl,K2.o.none _⟩
   · have e:copy t k s D L x=.ok ((),(x.1,gr x.2 t k)):=by unfold copy;rw[hmm,if_neg hf,if_neg hl]
     rw[e];have HT:=qH (take_yes h (k:=k) hL (by rw[hmm];exact hl));obtain⟨cp0,hir⟩:=h.ir;obtain⟨hir1,hk1⟩:=hir.setZ ((L:Int) - ((x.2.length - D+k:Nat):Int));have hdl:=h.dl;have hlx:=h.ll;have hzE:(L:Int) - ((x.2.length - D+k:Nat):Int)=(L:Int) - (((gr x.2 t k).length - D:Nat):Int):=(by rw[z0o];omega);have hlE:(gr x.2 t k).length - D<=L:=(by rw[z0o,hmm];omega);have hdE:D<=(gr x.2 t k).length:=(by rw[z0o];omega);have HE:=qH (λ(W:World) (r' cp':Nat) (hI:Ir W B g q r' s ((L:Int) - ((x.2.length - D+k:Nat):Int)) cp' (x.1,gr x.2 t k))=>hI.in_ (D:=D) (L:=L) hzE hdE hlE);obtain⟨Z,hZ⟩:∃Z:Int,(L:Int) - ((x.2.length - D+k:Nat):Int)=Z:=⟨_,rfl⟩
     rw[hZ] at HT hir1 hk1 HE;generalize hw1:w.setCell ⟨g,2,none⟩ (.int .i64 Z)=w1 at HT hir1 hk1;have HI1:=qH hir1;have HK1:=qH (hk1.mono (T:=Ch g q r) (λj e=> .inl e));clear h hy hm c0 c2 c3 c4 cf e hl hir hir1 hk1 hdl hlx hzE hlE hdE hw1 hZ;go_enter func219,ntmps219;go_wp2_with (go_at_call 212;(with_reducible refine HT.o.mono ?_);rintro e w2 ⟨rfl,rfl⟩)
     go_loopw [18] (λi wr=> ∃j:Nat,j<=k/\i=.int .i64 j/\∃r' cp',(r'=r\/w.heap.size<=r')/\Ir wr B g q r' s Z cp' (x.1,gr x.2 t j)/\Kept (Ch g q r) w wr) (λi _=>k - (intOf i).toNat)
     case atStart=>exact⟨0,qZ,rfl,r,cp0,.inl rfl,HI1.o,HK1.o⟩
     case round=>
      obtain⟨j,hj,rfl,r1,cp1,hr1,hI,hK⟩:=hrel;have hgl:=z0o x.2 t j;rw[hmm] at hgl;generalize hM:m+j=M at hgl;obtain⟨k0,k1,kf⟩:=hI.cells;simp only at k1;rw[hgl] at k1;have kf1:=kf 1;clear d1;by_cases hlt:j<k
      · obtain⟨u,hu⟩:∃u,M - t=u:=⟨_,rfl⟩
        have hM8:M<=900000258:=(by omega);have y1:IntKind.i64.wrap ((M:Int) - (t:Int))=(u:Int):=(by rw[IntWalk.i64_in _ ⟨by omega,by omega⟩];omega);have y2:IntKind.i64.wrap (u:Int)=(u:Int):=(by rw[IntWalk.i64_in _ ⟨by omega,by omega⟩]);have hu2:u<M:=(by omega);have hgx:(gr x.2 t j)[u]? =some ((gr x.2 t j).getD u 0):=(by rw[List.getD,qE (by omega)];rfl);have hstep:gr x.2 t (j+1)=gr x.2 t j++[(gr x.2 t j).getD u 0]:=by
         show gr x.2 t j++[(gr x.2 t j).getD ((gr x.2 t j).length - t) 0]=_
         rw[hgl,hu]
        have wx:=hI.ry.byte u _ hgx;generalize hb:(gr x.2 t j).getD u 0=b at wx hstep;obtain⟨HI2,HK2,HG,HST,HR1⟩:=qh5 hI hK hgl hstep hr1;have hg9:=hI.glt;have wab:∀o:Obj,(wr.alloc o).cell? ⟨g,1,none⟩=some (.slice (some ⟨r1,0,none⟩) M cp1):=λo=>(World.cell?_of_block (a:=⟨g,1,none⟩) (Below.heap_alloc _ _ _ hg9)).trans k1
        clear hI hgl hstep hb hgx hM hu hK hr1 kf hf;go_wp2_with fail
        go_region_law (refine z7e rfl (.tmp 24) (.tmp 38) rfl r1 M cp1 (gr x.2 t j) (by simp[Act.eval]) (z7h HI2.o.ry _) HG.o ⟨wr.heap.size,0,none⟩ 1 b (by simp[Act.eval]) (by simp) (by omega) ?_;intro g' cp' w4 r2 gr4 o4;have HL4:=qH (HI2.o.app (((Kept.refl NoB wr).drew).alloc _) r2 gr4 o4 (n:=M+1) (by rw[qA,HG.o];rfl));have w4b:=(gr4.block g (by simp;omega) (by intro e;injection e with e;exact HI2.o.gr e));have w4a:=World.frozen?_of_block (a:=⟨g,1,none⟩) w4b;have w4f:=w4a.trans ((World.frozen?_of_block (a:=⟨g,1,none⟩) (Below.heap_alloc _ _ _ hg9)).trans kf1);have w4c:=(World.cell?_of_block (a:=⟨g,1,none⟩) w4b).trans (wab _);clear w4b w4a r2 gr4 o4)
        all_goals
         clear wab wx;have HL5:=qH HL4.o;clear HL4;rw[<-HST.o] at HL5;go_wp2_with fail;go_roundw
         case rel=>exact⟨j+1,by omega,by go_num,g',cp',by
          rcases HL5.o.2.2 with e|e
          · rcases HR1.o with e'|e'
            · exact .inl (e.trans e')
            · exact .inr (by omega)
          · have:=HK2.o.size;exact .inr (by omega),HL5.o.1,Kept.ch_trans HK2.o HL5.o.2.1 HR1.o⟩
         case measure=>simp[intOf];omega
      · obtain rfl:j=k:=by omega
        obtain⟨HI2,HK2,HR1⟩:=qh3 hI hK hr1;clear hI hgl hM hK hr1;go_wp2_with fail;go_end0;exact⟨rfl,HK2.o,r1,HR1.o,HE.o _ _ _ HI2.o⟩
