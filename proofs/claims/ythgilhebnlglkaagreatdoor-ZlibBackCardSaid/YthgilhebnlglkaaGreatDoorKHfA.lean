import Derived.Test.YthgilhebnlglkaaGreatDoorKMMath
import Derived.Test.YthgilhebnlglkaaGreatDoorKMPkE
import Derived.WalkSpells
set_option linter.all false
set_option maxHeartbeats 0
set_option maxRecDepth 1000000
open Go.Proofs.Tryz
namespace Go.Proofs.YthgilhebnlglkaaGreatDoor
namespace H
open Go Go.RowKit M C
theorem turn_small_nat(N K:Nat)(w:World)(b:N<=32768)(a:K<=15):
 Calls prog 281 #[.int .u64 N,.int .i64 K] w λe w'=>e=.returned (.int .u64 (rv N K))/\w=w':=by
 have h:=nB N K w (by omega) (by rw[Au];unfold big;omega);rw[Au,Au,show min K 64=K by omega] at h;exact h
theorem _root_.Go.Proofs.YthgilhebnlglkaaGreatDoor.C.Crow.set1h{w:World}{b n:Nat}{F G:Nat->Nat}(h:Crow w b n F G)(i x:Nat):Crow (w.setCell ⟨b,i*2,none⟩ (.int .u32 x)) b n (λj=>if j=i then x else F j) G:=by
 obtain⟨c,d,hs,l⟩:=h;refine⟨c.setIfInBounds (i*2) (.int .u32 x),?_,by simp[hs],λj g=> ?_⟩
 · simp[World.setCell,BT,d]
 · obtain⟨f,a⟩:=l j g
   by_cases e:j=i
   · subst e
     have k:j*2<c.size:=(by omega);refine⟨?_,?_⟩
     · rw[Ad,A7 rfl,A7 k];simp
     · rw[Ad,A0 (by omega),a]
   · refine⟨?_,?_⟩
     · rw[Ad,A0 (by omega),f];simp[e]
     · rw[Ad,A0 (by omega),a]
theorem writes_any(A:Option Addr)(n c:Nat)(l:Nat->Nat)(W:World)(hn:n<=maxLen)(T:∀i,l i<=255)(H:av W .u8 A n (λi=>(l i:Int))):
 Calls prog 247 #[.slice A n c] W (IB W (hH l n) (rc l n) l (erc l n:Nat)):=by
 have Y:=qH (kV A n c l W hn T H)
 have X:=qH (show 0<hH l n->hH l n=n/\Fit l n by
  intro h;rcases ij (l:=l) (n:=n) with⟨_,_,M⟩|⟨_,_,M⟩|⟨h1,L,_,M⟩
  · omega
  · omega
  · exact⟨M,dz h1 L⟩)
 obtain⟨E,hE⟩:∃E,erc l n=E:=⟨_,rfl⟩
 obtain⟨N,I⟩:∃N,hH l n=N:=⟨_,rfl⟩
 rw[hE,I] at Y ⊢;rw[I] at X;clear hE I H T;go_enter func247,ntmps247;go_wp2_with fail;refine Y.o.mono ?_;rintro e w1 ⟨A2,c2,rfl,u,s,D,Z,d⟩;have U:=qH Z;clear Z D;by_cases h0:0<N
 · obtain⟨b,rfl,B,a⟩:=d h0
   obtain⟨rfl,hf⟩:=X.o h0;obtain⟨q,F⟩:=qh2 hf a;have G:=B;clear d a hf;go_wp2_with fail
   go_loopw [15] (λi wr=> ∃k:Nat,k<=N/\i=.int .i64 k/\Crow wr b N (λj=>if j<k then rc l N j else cod l N j) l/\Below W.heap.size W wr) (λi _=>N - (intOf i).toNat)
   case atStart=>exact⟨0,qZ,rfl,F.o.congr (λi hi=>by simp) (λi hi=>rfl),U.o⟩
   case round=>
    obtain⟨k,a2,rfl,a,p⟩:=hrel;by_cases g:k<N
    · have m:=q.o.1.2 k g
      have Q:=kX q.o.1 q.o.2 g;have t:=a.cell1 g;have J:=a.cell2 g;have a1:=a.frozen (k*2);rw[A0 (Db k)] at t;obtain⟨x,C⟩:∃x,l k=x:=⟨_,rfl⟩
      obtain⟨y,K⟩:∃y,cod l N k=y:=⟨_,rfl⟩
      rw[C] at J m;rw[K] at t Q;have O:=lQ y x;have R:2^x<=2^15:=Ak (by omega) m;have hz:rv y x<=32768:=(by omega);have V:=qH (λw=>turn_small_nat y x w (by omega) m);have S:=qH (show rc l N k=rv y x by unfold rc;rw[C,K]);generalize P:rv y x=z at hz S V;obtain⟨v,r⟩:=qh2 a p;have a0:=a.lt;clear a p C K O R P;go_wp2_with fail;refine(V.o _).mono ?_;rintro e w2 ⟨rfl,rfl⟩;go_wp2_with fail;go_roundw
      case rel=>
       refine⟨k+1,by omega,by go_num,((v.o.set1h k z).alloc _).congr (λi hi=> ?_) (λi hi=>rfl),((r.o.setCell (by omega) _).alloc (by simp;exact r.o.size) _)⟩;by_cases e:i=k
       · rw[A7 e,A7 (by omega),e,S.o]
       · rw[A0 e]
         by_cases e2:i<k
         · rw[A7 e2,A7 (by omega)]
         · rw[A0 e2,A0 (by omega)]
      case measure=>simp[intOf];omega
    · obtain rfl:k=N:=by omega
      have v:=qH (a.congr (F':=rc l k) (G':=l) (λi hi=>by rw[A7 hi]) (λi hi=>rfl));have r:=qH p;clear a p;go_wp2_with fail;go_ret2;exact⟨_,_,rfl,u,s,v.o.cods,r.o,λ_=>⟨_,rfl,G,v.o⟩⟩
 · obtain rfl:N=0:=by omega
   clear d;go_wp2_with fail
   go_loopw [15] (λi wr=>i=.int .i64 0/\Below W.heap.size W wr) (λi _=>0)
   case atStart=>exact⟨rfl,U.o⟩
   case round=>
    obtain⟨rfl,p⟩:=hrel;have r:=qH p;clear p;go_wp2_with fail;go_ret2;exact⟨_,_,rfl,u,s,rS.nil _ _ _ _,r.o,λh=>absurd h (by omega)⟩
def two(a b:Value)(i:Nat):Value:=if i=0 then a else b
def R2(w:World)(T:TypeId)(g:Nat)(a b:Value):Prop:=w.rowIs g T 2 (two a b)
section
variable {w w':World} {T:TypeId} {g:Nat} {a b:Value}
theorem R2.new(w:World)(T:TypeId)(a b:Value):R2 (w.alloc (.cells #[a,b] T)) T w.heap.size a b:=⟨#[a,b],heap_alloc_new _ _,rfl,λi hi=>by
 match i,hi with
 |0,_=>rfl
 |1,_=>rfl⟩
theorem R2.alloc(h:R2 w T g a b)(o:Obj):R2 (w.alloc o) T g a b:=World.rowIs.alloc h o
theorem R2.drew(h:R2 w T g a b):R2 w.drew T g a b:=h
theorem R2.other(h:R2 w T g a b){x:Addr}(c:g≠x.block)(u:Value):R2 (w.setCell x u) T g a b:=World.rowIs.setOther h c u
theorem R2.lt(h:R2 w T g a b):g<w.heap.size:=World.rowIs.lt h
theorem R2.at0(h:R2 w T g a b):w.cell? ⟨g,0,none⟩=some a:=World.rowIs.cell h (i:=0) (by omega)
theorem R2.at1(h:R2 w T g a b):w.cell? ⟨g,1,none⟩=some b:=World.rowIs.cell h (i:=1) (by omega)
theorem R2.frozen(h:R2 w T g a b)(i:Nat):w.frozen? ⟨g,i,none⟩=false:=World.rowIs.frozen h i
theorem R2.put(h:R2 w T g a b)(c d:Value):R2 ((w.setCell ⟨g,0,none⟩ c).setCell ⟨g,1,none⟩ d) T g c d:=
 World.rowIs.congr (World.rowIs.set (World.rowIs.set h 0 c) 1 d) (λj e=>by
  match j,e with
  |0,_=>rfl
  |1,_=>rfl)
theorem R2.row(h:R2 w T g a b):w.heap[g]? =some (.cells #[a,b] T (0,0)):=by
 obtain⟨c,e,f,d⟩:=h;have:c= #[a,b]:=by
  apply Cl
  intro i
  match i with
  |0=>exact d 0 (by omega)
  |1=>exact d 1 (by omega)
  |i+2=>rw[AT (by omega),AT (by simp)]
 rw[e,this]
theorem R2.below(h:R2 w T g a b){B:Nat}(d:Below B w w')(c:g<B):R2 w' T g a b:=World.rowIs.of_block h (d.block g c)
end
theorem lU:(prog.info? 406).map (λi=>i.size)=some 2:=by kernel_rfl
theorem eU:(prog.info? 410).map (λi=>i.size)=some 2:=by kernel_rfl
theorem fC(p m:Nat)(w:World)(d:w.cell? ⟨p,1,none⟩=some (.map (some m))):
 Calls prog 315 #[.pointer (some ⟨p,0,none⟩)] w λe w'=>e=.returned (.bool true)/\w=w':=by
 have c:∀ (w:World) (r:Option Nat),(binOp .neq 400 (.map r) (.map none)).run prog w=.ok (.bool (!r.isNone)) w:=λw r=>run_neq_map_nil w _ _ _ r underlying400
 go_enter func315,ntmps315;go_wp2;go_ret;exact⟨rfl,rfl⟩
theorem fF(X f:Nat)(w:World)(i:X<big)(hf:f<=64):
 Calls prog 335 #[.int .u64 X,.int .i64 f] w λe w'=>e=.returned (.agg #[.int .u64 (X%2^f:Nat),.int .i64 f])/\Below w.heap.size w w':=by
 have h:=eY X f i hf;have d:=qH (λw=>eM f w hf);generalize c:X%2^f=y at h ⊢;have j:=qH (R2.new w 406 (.int .u64 y) (.int .i64 f));clear c;go_enter func335,ntmps335;go_wp2_with fail;refine(d.o _).mono ?_;rintro e k ⟨rfl,rfl⟩;go_wp2_with fail;exact bodyPost_ret (v:=.agg #[.int .u64 y,.int .i64 f]) (results_cell_row rfl _ _ w.heap.size _ _ _ _ rfl j.o.row underlying406 rfl lU) rfl ⟨rfl,qL⟩
theorem lq(x z f:Nat)(w:World)(i:x<=4294967295)(j:z<=15)(d:z<=f)(hf:f<=15):
 Calls prog 333 #[.agg #[.int .u32 x,.int .u8 z],.int .i64 f] w λe w'=>e=.returned (.agg #[.int .u64 0,.int .i64 0])/\Below w.heap.size w w':=by
 have c:=R2.new (w.alloc (.cells #[.int .u32 x,.int .u8 z] 216)) 406 (.int .u64 0) (.int .i64 0);rw[show(w.alloc (.cells #[.int .u32 x,.int .u8 z] 216)).heap.size=w.heap.size+1 by simp] at c;have h:=qH c;clear c;go_enter func333,ntmps333;go_wp2_with fail;refine bodyPost_ret (v:=.agg #[.int .u64 0,.int .i64 0]) (results_cell_row rfl _ _ _ _ _ _ _ rfl h.o.row underlying406 rfl lU) rfl ⟨rfl,?_⟩;exact(qL).alloc (by simp) _
theorem n9(x z f:Nat)(w:World)(n:x<=4294967295)(q:z<=15)(k:f<z):
 Calls prog 333 #[.agg #[.int .u32 x,.int .u8 z],.int .i64 f] w λe w'=>e=.returned (.agg #[.int .u64 (x%2^f:Nat),.int .i64 f])/\Below w.heap.size w w':=by
 have h:=qH (λw=>fF x f w (by unfold big;omega) (by omega));generalize j:x%2^f=y at h ⊢;clear j;have c:=R2.new (w.alloc (.cells #[.int .u32 x,.int .u8 z] 216)) 406 (.int .u64 0) (.int .i64 0);rw[show(w.alloc (.cells #[.int .u32 x,.int .u8 z] 216)).heap.size=w.heap.size+1 by simp] at c;have i:=qH c;clear c;go_enter func333,ntmps333;go_wp2_with fail;refine(h.o _).mono ?_;rintro e A ⟨rfl,d⟩;have c:=i.o.below d i.o.lt;have p:=c.at0;have r:=c.at1;have u:=c.frozen 0;have s:=c.frozen 1;have m:=qH (c.put (.int .u64 y) (.int .i64 f));have l:=qH (Below.trans (((Below.refl w.heap.size w).alloc qR (.cells #[.int .u32 x,.int .u8 z] 216)).alloc (by simp) (.cells #[.int .u64 0,.int .i64 0] 406)) (d.mono (by simp;omega)));clear d c;go_wp2_with fail;exact bodyPost_ret (v:=.agg #[.int .u64 y,.int .i64 f]) (results_cell_row rfl _ _ _ _ _ _ _ rfl m.o.row underlying406 rfl lU) rfl ⟨rfl,(l.o.setCell (by simp) _).setCell (by simp) _⟩
theorem ga(l:Nat->Nat)(n f k:Nat)(w:World)(c:l k<=15)(hf:f<=15):
 Calls prog 333 #[.agg #[.int .u32 (rc l n k),.int .u8 (l k)],.int .i64 f] w λe w'=>e=.returned (.agg #[.int .u64 (ahb l n f k),.int .i64 (ahs l f k)])/\Below w.heap.size w w':=by
 have m:=iQ (l:=l) (n:=n) (i:=k) c;rcases aF l n f k with⟨h,d,j⟩|⟨h,d,j⟩
 · rw[d,j];exact lq _ _ f w (by omega) c h hf
 · rw[d,j];exact n9 _ _ f w (by omega) c h
