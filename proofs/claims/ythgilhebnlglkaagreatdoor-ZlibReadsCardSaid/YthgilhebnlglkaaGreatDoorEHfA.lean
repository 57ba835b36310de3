import Derived.Test.YthgilhebnlglkaaGreatDoorEMMath
import Derived.Test.YthgilhebnlglkaaGreatDoorEMPkE
import Derived.WalkSpells
set_option linter.all false
set_option maxHeartbeats 8000000
set_option maxRecDepth 1000000
open Go.Proofs.Tryz
namespace Go.Proofs.YthgilhebnlglkaaGreatDoor.H
open Go Go.RowKit M C
theorem turn_small_nat(N K:Nat)(w:World)(hN:N<=32768)(hK:K<=15):
 Calls prog 281 #[.int .u64 N,.int .i64 K] w λe w'=>e=.returned (.int .u64 (rv N K))/\w=w':=by
 have h:=z73 N K w (by omega) (by rw[Int.toNat_natCast];unfold big;omega);rw[Int.toNat_natCast,Int.toNat_natCast,show min K 64=K by omega] at h;exact h
theorem _root_.Go.Proofs.YthgilhebnlglkaaGreatDoor.C.Crow.set1h{w:World}{b n:Nat}{F G:Nat->Nat}(h:Crow w b n F G)(i x:Nat):Crow (w.setCell ⟨b,i*2,none⟩ (.int .u32 x)) b n (λj=>if j=i then x else F j) G:=by
 obtain⟨c,hb,hs,hc⟩:=h;refine⟨c.setIfInBounds (i*2) (.int .u32 x),?_,by simp[hs],λj hj=> ?_⟩
 · simp[World.setCell,Array.getElem?_modify,hb]
 · obtain⟨h1,h2⟩:=hc j hj
   by_cases e:j=i
   · subst e
     have l1:j*2<c.size:=(by omega);refine⟨?_,?_⟩
     · rw[Array.getElem?_setIfInBounds,if_pos rfl,if_pos l1];simp
     · rw[Array.getElem?_setIfInBounds,if_neg (by omega),h2]
   · refine⟨?_,?_⟩
     · rw[Array.getElem?_setIfInBounds,if_neg (by omega),h1];simp[e]
     · rw[Array.getElem?_setIfInBounds,if_neg (by omega),h2]
theorem writes_any(A:Option Addr)(n c:Nat)(l:Nat->Nat)(W:World)(hn:n<=maxLen)(hl:∀i,l i<=255)(H:z0e W .u8 A n (λi=>(l i:Int))):
 Calls prog 247 #[.slice A n c] W (zcD W (z32 l n) (rc l n) l (erc l n:Nat)):=by
 have HC:=qH (z5T A n c l W hn hl H)
 have HF:=qH (show 0<z32 l n->z32 l n=n/\Fit l n by
  intro h;rcases z3d (l:=l) (n:=n) with⟨_,_,h3⟩|⟨_,_,h3⟩|⟨h1,h1',_,h3⟩
  · omega
  · omega
  · exact⟨h3,z1e h1 h1'⟩)
 obtain⟨E,hE⟩:∃E,erc l n=E:=⟨_,rfl⟩
 obtain⟨N,hN⟩:∃N,z32 l n=N:=⟨_,rfl⟩
 rw[hE,hN] at HC ⊢;rw[hN] at HF;clear hE hN H hl;go_enter func247,ntmps247;go_wp2_with fail;refine HC.o.mono ?_;rintro e w1 ⟨A2,c2,rfl,hc1,hc2,hcd,b1,hrow⟩;have B1:=qH b1;clear b1 hcd;by_cases h0:0<N
 · obtain⟨b,rfl,hbs,hr⟩:=hrow h0
   obtain⟨rfl,hf⟩:=HF.o h0;obtain⟨HFt,HR0⟩:=qh2 hf hr;have hbW:=hbs;clear hrow hr hf;go_wp2_with fail
   go_loopw [15] (λi wr=> ∃k:Nat,k<=N/\i=.int .i64 k/\Crow wr b N (λj=>if j<k then rc l N j else cod l N j) l/\Below W.heap.size W wr) (λi _=>N - (intOf i).toNat)
   case atStart=>exact⟨0,qZ,rfl,HR0.o.congr (λi hi=>by simp) (λi hi=>rfl),B1.o⟩
   case round=>
    obtain⟨k,hkn,rfl,hr,hb⟩:=hrel;by_cases hlt:k<N
    · have h15:=HFt.o.1.2 k hlt
      have hcs:=z3j HFt.o.1 HFt.o.2 hlt;have hr1:=hr.cell1 hlt;have hr2:=hr.cell2 hlt;have hf1:=hr.frozen (k*2);rw[if_neg (Nat.lt_irrefl k)] at hr1;obtain⟨x,hx⟩:∃x,l k=x:=⟨_,rfl⟩
      obtain⟨y,hy⟩:∃y,cod l N k=y:=⟨_,rfl⟩
      rw[hx] at hr2 h15;rw[hy] at hr1 hcs;have hrv:=z4o y x;have hpw:2^x<=2^15:=Nat.pow_le_pow_right (by omega) h15;have hz:rv y x<=32768:=(by omega);have HT:=qH (λw=>turn_small_nat y x w (by omega) h15);have HZ:=qH (show rc l N k=rv y x by unfold rc;rw[hx,hy]);generalize hzz:rv y x=z at hz HZ HT;obtain⟨HR,HB⟩:=qh2 hr hb;have hbl:=hr.lt;clear hr hb hx hy hrv hpw hzz;go_wp2_with fail;refine(HT.o _).mono ?_;rintro e w2 ⟨rfl,rfl⟩;go_wp2_with fail;go_roundw
      case rel=>
       refine⟨k+1,by omega,by go_num,((HR.o.set1h k z).alloc _).congr (λi hi=> ?_) (λi hi=>rfl),((HB.o.setCell (by omega) _).alloc (by simp;exact HB.o.size) _)⟩;by_cases e:i=k
       · rw[if_pos e,if_pos (by omega),e,HZ.o]
       · rw[if_neg e]
         by_cases e2:i<k
         · rw[if_pos e2,if_pos (by omega)]
         · rw[if_neg e2,if_neg (by omega)]
      case measure=>simp[intOf];omega
    · obtain rfl:k=N:=by omega
      have HR:=qH (hr.congr (F':=rc l k) (G':=l) (λi hi=>by rw[if_pos hi]) (λi hi=>rfl));have HB:=qH hb;clear hr hb;go_wp2_with fail;go_ret2;exact⟨_,_,rfl,hc1,hc2,HR.o.cods,HB.o,λ_=>⟨_,rfl,hbW,HR.o⟩⟩
 · obtain rfl:N=0:=by omega
   clear hrow;go_wp2_with fail
   go_loopw [15] (λi wr=>i=.int .i64 0/\Below W.heap.size W wr) (λi _=>0)
   case atStart=>exact⟨rfl,B1.o⟩
   case round=>
    obtain⟨rfl,hb⟩:=hrel;have HB:=qH hb;clear hb;go_wp2_with fail;go_ret2;exact⟨_,_,rfl,hc1,hc2,z6V.nil _ _ _ _,HB.o,λh=>absurd h (by omega)⟩
def two(a b:Value)(i:Nat):Value:=if i=0 then a else b
def R2(w:World)(T:TypeId)(g:Nat)(a b:Value):Prop:=w.rowIs g T 2 (two a b)
section
variable {w w':World} {T:TypeId} {g:Nat} {a b:Value}
theorem R2.new(w:World)(T:TypeId)(a b:Value):R2 (w.alloc (.cells #[a,b] T)) T w.heap.size a b:=⟨#[a,b],heap_alloc_new _ _,rfl,λi hi=>by
 match i,hi with
 |0,_=>rfl
 |1,_=>rfl⟩
theorem R2.alloc(h:R2 w T g a b)(o:Obj):R2 (w.alloc o) T g a b:=World.rowIs.alloc h o
theorem R2.drew(h:R2 w T g a b):R2 w.drew T g a b:=h
theorem R2.other(h:R2 w T g a b){x:Addr}(hx:g≠x.block)(u:Value):R2 (w.setCell x u) T g a b:=World.rowIs.setOther h hx u
theorem R2.lt(h:R2 w T g a b):g<w.heap.size:=World.rowIs.lt h
theorem R2.at0(h:R2 w T g a b):w.cell? ⟨g,0,none⟩=some a:=World.rowIs.cell h (i:=0) (by omega)
theorem R2.at1(h:R2 w T g a b):w.cell? ⟨g,1,none⟩=some b:=World.rowIs.cell h (i:=1) (by omega)
theorem R2.frozen(h:R2 w T g a b)(i:Nat):w.frozen? ⟨g,i,none⟩=false:=World.rowIs.frozen h i
theorem R2.put(h:R2 w T g a b)(c d:Value):R2 ((w.setCell ⟨g,0,none⟩ c).setCell ⟨g,1,none⟩ d) T g c d:=
 World.rowIs.congr (World.rowIs.set (World.rowIs.set h 0 c) 1 d) (λj hj=>by
  match j,hj with
  |0,_=>rfl
  |1,_=>rfl)
theorem R2.row(h:R2 w T g a b):w.heap[g]? =some (.cells #[a,b] T (0,0)):=by
 obtain⟨c,h1,h2,h3⟩:=h;have:c= #[a,b]:=by
  apply Array.ext_getElem?
  intro i
  match i with
  |0=>exact h3 0 (by omega)
  |1=>exact h3 1 (by omega)
  |i+2=>rw[Array.getElem?_eq_none (by omega),Array.getElem?_eq_none (by simp)]
 rw[h1,this]
theorem R2.below(h:R2 w T g a b){B:Nat}(hb:Below B w w')(hB:g<B):R2 w' T g a b:=World.rowIs.of_block h (hb.block g hB)
end
theorem z6e:(prog.info? 406).map (λi=>i.size)=some 2:=by kernel_rfl
theorem z2G:(prog.info? 410).map (λi=>i.size)=some 2:=by kernel_rfl
theorem z3a(p m:Nat)(w:World)(hc:w.cell? ⟨p,1,none⟩=some (.map (some m))):
 Calls prog 315 #[.pointer (some ⟨p,0,none⟩)] w λe w'=>e=.returned (.bool true)/\w=w':=by
 have qT:∀ (w:World) (r:Option Nat),(binOp .neq 400 (.map r) (.map none)).run prog w=.ok (.bool (!r.isNone)) w:=λw r=>run_neq_map_nil w _ _ _ r underlying400
 go_enter func315,ntmps315;go_wp2;go_ret;exact⟨rfl,rfl⟩
theorem z3b(X f:Nat)(w:World)(hX:X<big)(hf:f<=64):
 Calls prog 335 #[.int .u64 X,.int .i64 f] w λe w'=>e=.returned (.agg #[.int .u64 (X%2^f:Nat),.int .i64 f])/\Below w.heap.size w w':=by
 have HV:=z2K X f hX hf;have HM:=qH (λw=>z2z f w hf);generalize hy:X%2^f=y at HV ⊢;have HR:=qH (R2.new w 406 (.int .u64 y) (.int .i64 f));clear hy;go_enter func335,ntmps335;go_wp2_with fail;refine(HM.o _).mono ?_;rintro e w2 ⟨rfl,rfl⟩;go_wp2_with fail;exact bodyPost_ret (v:=.agg #[.int .u64 y,.int .i64 f]) (results_cell_row rfl _ _ w.heap.size _ _ _ _ rfl HR.o.row underlying406 rfl z6e) rfl ⟨rfl,qL⟩
theorem z5Z(x z f:Nat)(w:World)(hx:x<=4294967295)(hz:z<=15)(hle:z<=f)(hf:f<=15):
 Calls prog 333 #[.agg #[.int .u32 x,.int .u8 z],.int .i64 f] w λe w'=>e=.returned (.agg #[.int .u64 0,.int .i64 0])/\Below w.heap.size w w':=by
 have hr:=R2.new (w.alloc (.cells #[.int .u32 x,.int .u8 z] 216)) 406 (.int .u64 0) (.int .i64 0);rw[show(w.alloc (.cells #[.int .u32 x,.int .u8 z] 216)).heap.size=w.heap.size+1 by simp] at hr;have HR:=qH hr;clear hr;go_enter func333,ntmps333;go_wp2_with fail;refine bodyPost_ret (v:=.agg #[.int .u64 0,.int .i64 0]) (results_cell_row rfl _ _ _ _ _ _ _ rfl HR.o.row underlying406 rfl z6e) rfl ⟨rfl,?_⟩;exact(qL).alloc (by simp) _
theorem z6T(x z f:Nat)(w:World)(hx:x<=4294967295)(hz:z<=15)(hlt:f<z):
 Calls prog 333 #[.agg #[.int .u32 x,.int .u8 z],.int .i64 f] w λe w'=>e=.returned (.agg #[.int .u64 (x%2^f:Nat),.int .i64 f])/\Below w.heap.size w w':=by
 have HF:=qH (λw=>z3b x f w (by unfold big;omega) (by omega));generalize hy:x%2^f=y at HF ⊢;clear hy;have hr:=R2.new (w.alloc (.cells #[.int .u32 x,.int .u8 z] 216)) 406 (.int .u64 0) (.int .i64 0);rw[show(w.alloc (.cells #[.int .u32 x,.int .u8 z] 216)).heap.size=w.heap.size+1 by simp] at hr;have HR:=qH hr;clear hr;go_enter func333,ntmps333;go_wp2_with fail;refine(HF.o _).mono ?_;rintro e w2 ⟨rfl,b2⟩;have hr:=HR.o.below b2 HR.o.lt;have r0:=hr.at0;have r1:=hr.at1;have f0:=hr.frozen 0;have f1:=hr.frozen 1;have HP:=qH (hr.put (.int .u64 y) (.int .i64 f));have B2:=qH (Below.trans (((Below.refl w.heap.size w).alloc qR (.cells #[.int .u32 x,.int .u8 z] 216)).alloc (by simp) (.cells #[.int .u64 0,.int .i64 0] 406)) (b2.mono (by simp;omega)));clear b2 hr;go_wp2_with fail;exact bodyPost_ret (v:=.agg #[.int .u64 y,.int .i64 f]) (results_cell_row rfl _ _ _ _ _ _ _ rfl HP.o.row underlying406 rfl z6e) rfl ⟨rfl,(B2.o.setCell (by simp) _).setCell (by simp) _⟩
theorem z3t(l:Nat->Nat)(n f k:Nat)(w:World)(h15:l k<=15)(hf:f<=15):
 Calls prog 333 #[.agg #[.int .u32 (rc l n k),.int .u8 (l k)],.int .i64 f] w λe w'=>e=.returned (.agg #[.int .u64 (ahb l n f k),.int .i64 (ahs l f k)])/\Below w.heap.size w w':=by
 have hx:=z4t (l:=l) (n:=n) (i:=k) h15;rcases z0p l n f k with⟨h,h1,h2⟩|⟨h,h1,h2⟩
 · rw[h1,h2];exact z5Z _ _ f w (by omega) h15 h hf
 · rw[h1,h2];exact z6T _ _ f w (by omega) h15 h
