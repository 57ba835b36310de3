import Derived.Test.YthgilhebnlglkaaGreatDoorKMIfP
import Derived.Test.YthgilhebnlglkaaGreatDoorKMYsD
set_option linter.all false
set_option maxHeartbeats 0
set_option maxRecDepth 1000000
open Go.Proofs.Tryz
namespace Go.Proofs.YthgilhebnlglkaaGreatDoor
namespace I
open Go Go.RowKit M
section
variable {w:World} {B g q r D L:Nat} {s:ByteArray} {x:St}
theorem Kept.ch_trans{w b w2:World}{g q r a:Nat}(h:Kept (Ch g q r) w b)(k:Kept (Ch g q a) b w2)(c:a=r\/w.heap.size<=a):Kept (Ch g q r) w w2:=
 h.trans k λj d=>by
  rcases d with e|e|e
  · exact .inl (.inl e)
  · exact .inl (.inr (.inl e))
  · rcases c with e'|e'
    · exact .inl (.inr (.inr (e.trans e')))
    · exact .inr (by omega)
theorem Res.trans{w c w2:World}{y z:St}{a:Nat}(h:Kept (Ch g q r) w c)(b:a=r\/w.heap.size<=a)(k:Res c B g q a s D L z w2):Res w B g q r s D L z w2:=by
 obtain⟨f,i,j,d⟩:=k;refine⟨Kept.ch_trans h f b,i,?_,d⟩;have:=h.size;rcases j with e|e
 · rcases b with e'|e'
   · exact .inl (e.trans e')
   · exact .inr (by omega)
 · exact .inr (by omega)
theorem xq{w:World}{g a:Nat}{bs:List UInt8}(h:Ry w g a bs)(o:Obj):Ry (w.drew.alloc o) g a bs:=h.of_block (Below.heap_alloc w.drew _ _ h.lt)
theorem Gw(h:In w B g q r s D L x)(t k:Nat)(ht:1<=t/\t<=32768)(hk:k<=258)(hL:L<=1000000000)(hx:x.2.length<=900000000):
 Calls prog 219 #[.pointer (some ⟨g,0,none⟩),.int .i64 k,.int .i64 t] w (Out w B g q r s D L (copy t k s D L x) dm):=by
 obtain⟨cp,v3,v4,c0,c1,c2,c3,c4,cf,hy,hm⟩:=h.cells;obtain⟨m,c⟩:∃m,x.2.length=m:=⟨_,rfl⟩
 rw[c] at c1 hx;by_cases hf:m<t
 · have e:copy t k s D L x=.error 164:=by unfold copy;rw[c,A7 hf]
   rw[e];have d1:decide (m<t)=true:=q9T hf;clear h hy hm c0 c2 c3 c4 cf e hf c;go_enter func219,ntmps219;go_wp2_with (go_at_call 171;(with_reducible refine(z7 _).mono ?_);rintro e w2 ⟨rfl,S⟩;have K2:=qH S;clear S);exact⟨rfl,rfl,K2.o.none _⟩
 · have d1:decide (m<t)=false:=qF hf
   by_cases J:L<m - D+k
   · have e:copy t k s D L x=.error 5:=by unfold copy;rw[c,A0 hf,A7 J]
     rw[e];have Q:=qH (take_no h (k:=k) (by omega) (by rw[c];exact J));clear h hy hm c0 c2 c3 c4 cf e hf c J;go_enter func219,ntmps219;go_wp2_with (go_at_call 212;(with_reducible refine Q.o.mono ?_);rintro e w2 ⟨rfl,S⟩;have K2:=qH S;clear S);exact⟨rfl,rfl,K2.o.none _⟩
   · have e:copy t k s D L x=.ok ((),(x.1,gr x.2 t k)):=by unfold copy;rw[c,A0 hf,A0 J]
     rw[e];have Q:=qH (take_yes h (k:=k) hL (by rw[c];exact J));obtain⟨a6,a1⟩:=h.ir;obtain⟨p,A⟩:=a1.setZ ((L:Int) - ((x.2.length - D+k:Nat):Int));have a7:=h.dl;have a5:=h.ll;have V:(L:Int) - ((x.2.length - D+k:Nat):Int)=(L:Int) - (((gr x.2 t k).length - D:Nat):Int):=(by rw[aJ];omega);have K:(gr x.2 t k).length - D<=L:=(by rw[aJ,c];omega);have O:D<=(gr x.2 t k).length:=(by rw[aJ];omega);have HE:=qH (λ(W:World) (N v:Nat) (C:Ir W B g q N s ((L:Int) - ((x.2.length - D+k:Nat):Int)) v (x.1,gr x.2 t k))=>C.in_ (D:=D) (L:=L) V O K);obtain⟨Z,hZ⟩:∃Z:Int,(L:Int) - ((x.2.length - D+k:Nat):Int)=Z:=⟨_,rfl⟩
     rw[hZ] at Q p A HE;generalize a3:w.setCell ⟨g,2,none⟩ (.int .i64 Z)=w1 at Q p A;have a2:=qH p;have a9:=qH (A.mono (T:=Ch g q r) (λj e=> .inl e));clear h hy hm c0 c2 c3 c4 cf e J a1 p A a7 a5 V K O a3 hZ;go_enter func219,ntmps219;go_wp2_with (go_at_call 212;(with_reducible refine Q.o.mono ?_);rintro e w2 ⟨rfl,rfl⟩)
     go_loopw [18] (λi wr=> ∃j:Nat,j<=k/\i=.int .i64 j/\∃N v,(N=r\/w.heap.size<=N)/\Ir wr B g q N s Z v (x.1,gr x.2 t j)/\Kept (Ch g q r) w wr) (λi _=>k - (intOf i).toNat)
     case atStart=>exact⟨0,qZ,rfl,r,a6,.inl rfl,a2.o,a9.o⟩
     case round=>
      obtain⟨j,hj,rfl,r1,Y,E,C,hK⟩:=hrel;have l:=aJ x.2 t j;rw[c] at l;generalize hM:m+j=M at l;obtain⟨k0,k1,kf⟩:=C.cells;simp only at k1;rw[l] at k1;have a4:=kf 1;clear d1;by_cases ae:j<k
      · obtain⟨u,hu⟩:∃u,M - t=u:=⟨_,rfl⟩
        have aa:M<=900000258:=(by omega);have y1:IntKind.i64.wrap ((M:Int) - (t:Int))=(u:Int):=(by rw[IntWalk.i64_in _ ⟨by omega,by omega⟩];omega);have y2:IntKind.i64.wrap (u:Int)=(u:Int):=(by rw[IntWalk.i64_in _ ⟨by omega,by omega⟩]);have ab:u<M:=(by omega);have P:(gr x.2 t j)[u]? =some ((gr x.2 t j).getD u 0):=(by rw[List.getD,qE (by omega)];rfl);have d:gr x.2 t (j+1)=gr x.2 t j++[(gr x.2 t j).getD u 0]:=by
         show gr x.2 t j++[(gr x.2 t j).getD ((gr x.2 t j).length - t) 0]=_
         rw[l,hu]
        have wx:=C.ry.byte u _ P;generalize hb:(gr x.2 t j).getD u 0=b at wx d;obtain⟨y,z,HG,a8,G⟩:=qh5 C hK l d E;have X:=C.glt;have R:∀o:Obj,(wr.alloc o).cell? ⟨g,1,none⟩=some (.slice (some ⟨r1,0,none⟩) M Y):=λo=>(World.cell?_of_block (a:=⟨g,1,none⟩) (Below.heap_alloc _ _ _ X)).trans k1
        clear C l d hb P hM hu hK E kf hf;go_wp2_with fail
        go_region_law (refine xk rfl (.tmp 24) (.tmp 38) rfl r1 M Y (gr x.2 t j) (by simp[Act.eval]) (xq y.o.ry _) HG.o ⟨wr.heap.size,0,none⟩ 1 b (by simp[Act.eval]) (by simp) (by omega) ?_;intro g' v w4 r2 I o4;have a0:=qH (y.o.app (((Kept.refl NoB wr).drew).alloc _) r2 I o4 (n:=M+1) (by rw[qA,HG.o];rfl));have H:=(I.block g (by simp;omega) (by intro e;injection e with e;exact y.o.gr e));have U:=World.frozen?_of_block (a:=⟨g,1,none⟩) H;have ac:=U.trans ((World.frozen?_of_block (a:=⟨g,1,none⟩) (Below.heap_alloc _ _ _ X)).trans a4);have ad:=(World.cell?_of_block (a:=⟨g,1,none⟩) H).trans (R _);clear H U r2 I o4)
        all_goals
         clear R wx;have F:=qH a0.o;clear a0;rw[<-a8.o] at F;go_wp2_with fail;go_roundw
         case rel=>exact⟨j+1,by omega,by go_num,g',v,by
          rcases F.o.2.2 with e|e
          · rcases G.o with e'|e'
            · exact .inl (e.trans e')
            · exact .inr (by omega)
          · have:=z.o.size;exact .inr (by omega),F.o.1,Kept.ch_trans z.o F.o.2.1 G.o⟩
         case measure=>simp[intOf];omega
      · obtain rfl:j=k:=by omega
        obtain⟨y,z,G⟩:=qh3 C hK E;clear C l hM hK E;go_wp2_with fail;go_end0;exact⟨rfl,z.o,r1,G.o,HE.o _ _ _ y.o⟩
