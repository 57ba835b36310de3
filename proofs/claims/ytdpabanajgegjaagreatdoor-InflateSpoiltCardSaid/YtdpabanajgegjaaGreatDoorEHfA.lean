import Derived.Test.YtdpabanajgegjaaGreatDoorEMMath
import Derived.Test.YtdpabanajgegjaaGreatDoorEMPkE
import Derived.BigQuiet
import Derived.Deep.QuietTactic
import Derived.WalkSpells
namespace Go.Proofs.YtdpabanajgegjaaGreatDoor.H
open Go.Lib (hid)
open Go Go.RowKit M C
set_option linter.unusedVariables false
theorem turn_small_nat(N K:Nat)(w:World)(hN:N≤32768)(hK:K≤15):
 Calls Tryz.prog 229 #[.int .u64 N,.int .i64 K] w fun e w'=>e=.returned (.int .u64 (rv N K))∧w=w':=by
 have h:=turn_any N K w (by omega) (by rw[Int.toNat_natCast];unfold big;omega);rw[Int.toNat_natCast,Int.toNat_natCast,show min K 64=K by omega] at h;exact h
theorem _root_.Go.Proofs.YtdpabanajgegjaaGreatDoor.C.Crow.set1h{w:World}{b n:Nat}{F G:Nat→Nat}(h:Crow w b n F G)(i x:Nat):Crow (w.setCell ⟨b,i*2,none⟩ (.int .u32 x)) b n (fun j=>if j=i then x else F j) G:=by
 obtain⟨c,hb,hs,hc⟩:=h;refine⟨c.setIfInBounds (i*2) (.int .u32 x),?_,by simp[hs],fun j hj=> ?_⟩
 · simp[World.setCell,Array.getElem?_modify,hb]
 · obtain⟨h1,h2⟩:=hc j hj
   by_cases e:j=i
   · subst e
     have l1:j*2<c.size:=by omega
     refine⟨?_,?_⟩
     · rw[Array.getElem?_setIfInBounds,if_pos rfl,if_pos l1];simp
     · rw[Array.getElem?_setIfInBounds,if_neg (by omega),h2]
   · refine⟨?_,?_⟩
     · rw[Array.getElem?_setIfInBounds,if_neg (by omega),h1];simp[e]
     · rw[Array.getElem?_setIfInBounds,if_neg (by omega),h2]
set_option maxRecDepth 1000000 in
set_option maxHeartbeats 1000000 in
theorem writes_any(A:Option Addr)(n c:Nat)(l:Nat→Nat)(W:World)(hn:n≤maxLen)(hl:∀i,l i≤255)(H:Nums W .u8 A n (fun i=>(l i:Int))):
 Calls Tryz.prog 195 #[.slice A n c] W (GotC W (outn l n) (rc l n) l (erc l n:Nat)):=by
 have HC:=hid (codes_any A n c l W hn hl H)
 have HF:=hid (show 0<outn l n→outn l n=n∧Fit l n by
  intro h;rcases erc_of (l:=l) (n:=n) with⟨_,_,h3⟩|⟨_,_,h3⟩|⟨h1,h1',_,h3⟩
  · omega
  · omega
  · exact⟨h3,kind_fits h1 h1'⟩)
 obtain⟨E,hE⟩:∃E,erc l n=E:=⟨_,rfl⟩
 obtain⟨N,hN⟩:∃N,outn l n=N:=⟨_,rfl⟩
 rw[hE,hN] at HC ⊢;rw[hN] at HF;clear hE hN H hl;go_enter Tryz.func195,Tryz.ntmps195;go_wp2_with fail;refine HC.out.mono ?_;rintro e w1 ⟨A2,c2,rfl,hc1,hc2,hcd,b1,hrow⟩;have B1:=hid b1;clear b1 hcd;by_cases h0:0<N
 · obtain⟨b,rfl,hbs,hr⟩:=hrow h0
   obtain⟨rfl,hf⟩:=HF.out h0;have HFt:=hid hf;have HR0:=hid hr;have hbW:=hbs;clear hrow hr hf;go_wp2_with fail
   go_loopw [15] (fun i wr=> ∃k:Nat,k≤N∧i=.int .i64 k∧Crow wr b N (fun j=>if j<k then rc l N j else cod l N j) l∧Below W.heap.size W wr) (fun i _=>N - (intOf i).toNat)
   case atStart=>exact⟨0,Nat.zero_le _,rfl,HR0.out.congr (fun i hi=>by simp) (fun i hi=>rfl),B1.out⟩
   case round=>
    obtain⟨k,hkn,rfl,hr,hb⟩:=hrel;by_cases hlt:k<N
    · have h15:=HFt.out.1.2 k hlt
      have hcs:=cod_small HFt.out.1 HFt.out.2 hlt;have hr1:=hr.cell1 hlt;have hr2:=hr.cell2 hlt;have hf1:=hr.frozen (k*2);rw[if_neg (Nat.lt_irrefl k)] at hr1;obtain⟨x,hx⟩:∃x,l k=x:=⟨_,rfl⟩
      obtain⟨y,hy⟩:∃y,cod l N k=y:=⟨_,rfl⟩
      rw[hx] at hr2 h15;rw[hy] at hr1 hcs;have hrv:=rv_lt y x;have hpw:2^x≤2^15:=Nat.pow_le_pow_right (by omega) h15;have hz:rv y x≤32768:=by omega
      have HT:=hid (fun w=>turn_small_nat y x w (by omega) h15);have HZ:=hid (show rc l N k=rv y x by unfold rc;rw[hx,hy]);obtain⟨z,hzz⟩:∃z,rv y x=z:=⟨_,rfl⟩
      rw[hzz] at hz HZ HT;have HR:=hid hr;have HB:=hid hb;have hbl:=hr.lt;have HX:=hid hx;clear hr hb hx hy hrv hpw hzz;go_wp2_with fail;refine(HT.out _).mono ?_;rintro e w2 ⟨rfl,rfl⟩;go_wp2_with fail;go_roundw
      case rel=>
       refine⟨k+1,by omega,by go_num,((HR.out.set1h k z).alloc _).congr (fun i hi=> ?_) (fun i hi=>rfl),((HB.out.setCell (by omega) _).alloc (by simp;exact HB.out.size) _)⟩;by_cases e:i=k
       · rw[if_pos e,if_pos (by omega),e,HZ.out]
       · rw[if_neg e]
         by_cases e2:i<k
         · rw[if_pos e2,if_pos (by omega)]
         · rw[if_neg e2,if_neg (by omega)]
      case measure=>simp[intOf];omega
    · obtain rfl:k=N:=by omega
      have HR:=hid (hr.congr (F':=rc l k) (G':=l) (fun i hi=>by rw[if_pos hi]) (fun i hi=>rfl));have HB:=hid hb;clear hr hb;go_wp2_with fail;go_ret2;exact⟨_,_,rfl,hc1,hc2,HR.out.cods,HB.out,fun _=>⟨_,rfl,hbW,HR.out⟩⟩
 · obtain rfl:N=0:=by omega
   clear hrow;go_wp2_with fail
   go_loopw [15] (fun i wr=>i=.int .i64 0∧Below W.heap.size W wr) (fun i _=>0)
   case atStart=>exact⟨rfl,B1.out⟩
   case round=>
    obtain⟨rfl,hb⟩:=hrel;have HB:=hid hb;clear hb;go_wp2_with fail;go_ret2;exact⟨_,_,rfl,hc1,hc2,Cods.nil _ _ _ _,HB.out,fun h=>absurd h (by omega)⟩
def two(a b:Value)(i:Nat):Value:=if i=0 then a else b
def R2(w:World)(T:TypeId)(g:Nat)(a b:Value):Prop:=w.rowIs g T 2 (two a b)
section
variable {w w':World} {T:TypeId} {g:Nat} {a b:Value}
theorem R2.new(w:World)(T:TypeId)(a b:Value):R2 (w.alloc (.cells #[a,b] T)) T w.heap.size a b:=⟨#[a,b],heap_alloc_new _ _,rfl,fun i hi=>by
 match i,hi with
 |0,_=>rfl
 |1,_=>rfl⟩
theorem R2.alloc(h:R2 w T g a b)(o:Obj):R2 (w.alloc o) T g a b:=World.rowIs.alloc h o
theorem R2.drew(h:R2 w T g a b):R2 w.drew T g a b:=h
theorem R2.other(h:R2 w T g a b){x:Addr}(hx:g≠x.block)(u:Value):R2 (w.setCell x u) T g a b:=World.rowIs.setOther h hx u
theorem R2.lt(h:R2 w T g a b):g<w.heap.size:=World.rowIs.lt h
theorem R2.at0(h:R2 w T g a b):w.cell? ⟨g,0,none⟩=some a:=World.rowIs.cell h (i:=0) (by omega)
theorem R2.at1(h:R2 w T g a b):w.cell? ⟨g,1,none⟩=some b:=World.rowIs.cell h (i:=1) (by omega)
theorem R2.frozen(h:R2 w T g a b)(i:Nat):w.frozen? ⟨g,i,none⟩=false:=World.rowIs.frozen h i
theorem R2.put(h:R2 w T g a b)(c d:Value):R2 ((w.setCell ⟨g,0,none⟩ c).setCell ⟨g,1,none⟩ d) T g c d:=
 World.rowIs.congr (World.rowIs.set (World.rowIs.set h 0 c) 1 d) (fun j hj=>by
  match j,hj with
  |0,_=>rfl
  |1,_=>rfl)
theorem R2.row(h:R2 w T g a b):w.heap[g]? =some (.cells #[a,b] T (0,0)):=by
 obtain⟨c,h1,h2,h3⟩:=h
 have:c= #[a,b]:=by
  apply Array.ext_getElem?
  intro i
  match i with
  |0=>exact h3 0 (by omega)
  |1=>exact h3 1 (by omega)
  |i+2=>rw[Array.getElem?_eq_none (by omega),Array.getElem?_eq_none (by simp)]
 rw[h1,this]
theorem R2.below(h:R2 w T g a b){B:Nat}(hb:Below B w w')(hB:g<B):R2 w' T g a b:=World.rowIs.of_block h (hb.block g hB)
end
theorem rowSize:(Tryz.prog.info? 323).map (fun i=>i.size)=some 2:=by kernel_rfl
theorem cellSize:(Tryz.prog.info? 328).map (fun i=>i.size)=some 2:=by kernel_rfl
set_option maxRecDepth 1000000 in
theorem hmade_yes(p m:Nat)(w:World)(hc:w.cell? ⟨p,1,none⟩=some (.map (some m))):
 Calls Tryz.prog 236 #[.pointer (some ⟨p,0,none⟩)] w fun e w'=>e=.returned (.bool true)∧w=w':=by
 have qT:∀ (w:World) (r:Option Nat),(binOp .neq 317 (.map r) (.map none)).run Tryz.prog w=.ok (.bool (!r.isNone)) w:=fun w r=>run_neq_map_nil w _ _ _ r Tryz.underlying317
 go_enter Tryz.func236,Tryz.ntmps236;go_wp2;go_ret;exact⟨rfl,rfl⟩
set_option maxRecDepth 1000000 in
theorem firstOf_any(X f:Nat)(w:World)(hX:X<big)(hf:f≤64):
 Calls Tryz.prog 256 #[.int .u64 X,.int .i64 f] w fun e w'=>e=.returned (.agg #[.int .u64 (X%2^f:Nat),.int .i64 f])∧Below w.heap.size w w':=by
 have HV:=and_mask X f hX hf;have HM:=hid (fun w=>mask_nat f w hf);obtain⟨y,hy⟩:∃y,X%2^f=y:=⟨_,rfl⟩
 rw[hy] at HV ⊢;have HR:=hid (R2.new w 323 (.int .u64 y) (.int .i64 f));clear hy;go_enter Tryz.func256,Tryz.ntmps256;go_wp2_with fail;refine(HM.out _).mono ?_;rintro e w2 ⟨rfl,rfl⟩;go_wp2_with fail;exact bodyPost_ret (v:=.agg #[.int .u64 y,.int .i64 f]) (results_cell_row rfl _ _ w.heap.size _ _ _ _ rfl HR.out.row Tryz.underlying323 rfl rowSize) rfl ⟨rfl,(Below.refl _ _).alloc (Nat.le_refl _) _⟩
set_option maxRecDepth 1000000 in
theorem aheadOf_near(x z f:Nat)(w:World)(hx:x≤4294967295)(hz:z≤15)(hle:z≤f)(hf:f≤15):
 Calls Tryz.prog 254 #[.agg #[.int .u32 x,.int .u8 z],.int .i64 f] w fun e w'=>e=.returned (.agg #[.int .u64 0,.int .i64 0])∧Below w.heap.size w w':=by
 have hr:=R2.new (w.alloc (.cells #[.int .u32 x,.int .u8 z] 125)) 323 (.int .u64 0) (.int .i64 0);rw[show(w.alloc (.cells #[.int .u32 x,.int .u8 z] 125)).heap.size=w.heap.size+1 by simp] at hr;have HR:=hid hr;clear hr;go_enter Tryz.func254,Tryz.ntmps254;go_wp2_with fail;refine bodyPost_ret (v:=.agg #[.int .u64 0,.int .i64 0]) (results_cell_row rfl _ _ _ _ _ _ _ rfl HR.out.row Tryz.underlying323 rfl rowSize) rfl ⟨rfl,?_⟩;exact((Below.refl _ _).alloc (Nat.le_refl _) _).alloc (by simp) _
set_option maxRecDepth 1000000 in
theorem aheadOf_far(x z f:Nat)(w:World)(hx:x≤4294967295)(hz:z≤15)(hlt:f<z):
 Calls Tryz.prog 254 #[.agg #[.int .u32 x,.int .u8 z],.int .i64 f] w fun e w'=>e=.returned (.agg #[.int .u64 (x%2^f:Nat),.int .i64 f])∧Below w.heap.size w w':=by
 have HF:=hid (fun w=>firstOf_any x f w (by unfold big;omega) (by omega));obtain⟨y,hy⟩:∃y,x%2^f=y:=⟨_,rfl⟩
 rw[hy] at HF ⊢;clear hy;have hr:=R2.new (w.alloc (.cells #[.int .u32 x,.int .u8 z] 125)) 323 (.int .u64 0) (.int .i64 0);rw[show(w.alloc (.cells #[.int .u32 x,.int .u8 z] 125)).heap.size=w.heap.size+1 by simp] at hr;have HR:=hid hr;clear hr;go_enter Tryz.func254,Tryz.ntmps254;go_wp2_with fail;refine(HF.out _).mono ?_;rintro e w2 ⟨rfl,b2⟩;have hr:=HR.out.below b2 HR.out.lt;have r0:=hr.at0;have r1:=hr.at1;have f0:=hr.frozen 0;have f1:=hr.frozen 1;have HP:=hid (hr.put (.int .u64 y) (.int .i64 f));have B2:=hid (Below.trans (((Below.refl w.heap.size w).alloc (Nat.le_refl _) (.cells #[.int .u32 x,.int .u8 z] 125)).alloc (by simp) (.cells #[.int .u64 0,.int .i64 0] 323)) (b2.mono (by simp;omega)));clear b2 hr;go_wp2_with fail;exact bodyPost_ret (v:=.agg #[.int .u64 y,.int .i64 f]) (results_cell_row rfl _ _ _ _ _ _ _ rfl HP.out.row Tryz.underlying323 rfl rowSize) rfl ⟨rfl,(B2.out.setCell (by simp) _).setCell (by simp) _⟩
theorem aheadOf_any(l:Nat→Nat)(n f k:Nat)(w:World)(h15:l k≤15)(hf:f≤15):
 Calls Tryz.prog 254 #[.agg #[.int .u32 (rc l n k),.int .u8 (l k)],.int .i64 f] w fun e w'=>e=.returned (.agg #[.int .u64 (ahb l n f k),.int .i64 (ahs l f k)])∧Below w.heap.size w w':=by
 have hx:=rc_small (l:=l) (n:=n) (i:=k) h15;rcases ahs_cases l n f k with⟨h,h1,h2⟩|⟨h,h1,h2⟩
 · rw[h1,h2];exact aheadOf_near _ _ f w (by omega) h15 h hf
 · rw[h1,h2];exact aheadOf_far _ _ f w (by omega) h15 h
end Go.Proofs.YtdpabanajgegjaaGreatDoor.H
