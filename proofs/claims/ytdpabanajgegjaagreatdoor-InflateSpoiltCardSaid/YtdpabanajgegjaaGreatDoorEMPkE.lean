/- Texts of one place, one behind the other: PkE, PkF, PkG, CnA, CnB, PkM, RfN, RfT, CdR, CdC, CdF, CdG. -/
import Derived.Test.YtdpabanajgegjaaGreatDoorEMPkA
import Derived.Laws.EntriesVeiled
import Derived.Test.YtdpabanajgegjaaGreatDoorProg
import Derived.Test.YtdpabanajgegjaaGreatDoorEMMathT
import Derived.WalkKit
import Derived.Lib.Hide
import Derived.IntWalk
import Derived.Lib.Strings
import Derived.Lib.Walk
import Derived.Lib.BitFns
import Derived.RegionTactic
import Derived.BigRegion
import Derived.Deep.QuietTactic
import Derived.BigQuiet
import Derived.Laws.MakeOwn
set_option linter.unusedVariables false
set_option maxRecDepth 1000000
namespace Go.Proofs.YtdpabanajgegjaaGreatDoor
open Go.RowKit M
def Br(w:World)(g n:Nat)(f:Nat→Nat):Prop:=w.rowIs g 5 n (fun i=> .int .u8 (f i))
section
variable {w w':World} {g n:Nat} {f f':Nat→Nat}
theorem Br.lt(h:Br w g n f):g<w.heap.size:=World.rowIs.lt h
theorem Br.at'(h:Br w g n f)(q:w'.heap[g]? =w.heap[g]?):Br w' g n f:=World.rowIs.of_block h q
theorem Br.alloc(h:Br w g n f)(o:Obj):Br (w.alloc o) g n f:=World.rowIs.alloc h o
theorem Br.drew(h:Br w g n f):Br w.drew g n f:=h
theorem Br.other(h:Br w g n f){a:Addr}(ha:g≠a.block)(v:Value):Br (w.setCell a v) g n f:=World.rowIs.setOther h ha v
theorem Br.below(h:Br w g n f){B:Nat}(hb:Below B w w')(hB:g<B):Br w' g n f:=h.at' (hb.block g hB)
theorem Br.congr(h:Br w g n f)(e:∀i,i<n→f i=f' i):Br w g n f':=World.rowIs.congr h (fun i hi=>by rw[e i hi])
theorem Br.cell(h:Br w g n f){i:Nat}(hi:i<n):w.cell? ⟨g,i,none⟩=some (.int .u8 (f i)):=World.rowIs.cell h hi
theorem Br.frozen(h:Br w g n f)(i:Nat):w.frozen? ⟨g,i,none⟩=false:=World.rowIs.frozen h i
theorem Br.set(h:Br w g n f)(i x:Nat):Br (w.setCell ⟨g,i,none⟩ (.int .u8 x)) g n (fun j=>if j=i then x else f j):=
 World.rowIs.congr (World.rowIs.set h i (.int .u8 x)) (fun j hj=>by by_cases e:j=i<;>simp[e])
theorem Br.made(w:World)(n:Nat):Br (w.alloc (.cells (madeCells #[.int .u8 0] (n*1)) 5)) w.heap.size n (fun _=>0):=by
 rw[Nat.mul_one];exact World.rowIs_made w (.int .u8 0) n 5
theorem Br.made'(w:World)(n:Nat):Br (w.alloc (.cells (madeCells #[.int .u8 0] n) 5)) w.heap.size n (fun _=>0):=World.rowIs_made w (.int .u8 0) n 5
theorem Br.nums(h:Br w g n f):Nums w .u8 (some ⟨g,0,none⟩) n (fun i=>(f i:Int)):=fun hn=>
 ⟨g,0,rfl,h.lt,fun i hi=>by rw[Nat.zero_add];exact h.cell hi⟩
end
def bl(x:Nat):Nat:=if x=0 then 0 else Nat.log2 x+1
theorem bl_le{x k:Nat}:bl x≤k↔x<2^k:=by
 unfold bl;by_cases h:x=0
 · rw[if_pos h,h];exact⟨fun _=>Nat.two_pow_pos _,fun _=>Nat.zero_le _⟩
 · rw[if_neg h]
   exact Nat.log2_lt h
def nds(n:Nat):Nat:=if n=0 then 0 else max 1 (bl (n - 1))
theorem nds_le{n k:Nat}(h0:1≤k):nds n≤k↔n≤2^k:=by
 unfold nds;by_cases h:n=0
 · rw[if_pos h,h];exact⟨fun _=>Nat.zero_le _,fun _=>Nat.zero_le _⟩
 · rw[if_neg h]
   have:= @bl_le (n - 1) k;constructor
   · intro g;have:=this.1 (by omega);omega
   · intro g;have:=this.2 (by omega);omega
theorem nds_zero{n:Int}(h:n<1):nds n.toNat=0:=by
 have:n.toNat=0:=by omega
 rw[this];rfl
theorem first_of(P:Nat→Prop)(m:Nat):∀k,k≤m→(∀t,k≤t→t<m→P t)→∃i,i≤k∧(∀t,i≤t→t<m→P t)∧(i=0∨¬P (i - 1))
 |0,_,h=>⟨0,Nat.le_refl _,h,.inl rfl⟩
 |k+1,hk,h=>by
  by_cases q:P k
  · obtain⟨i,h1,h2,h3⟩:=first_of P m k (by omega) (fun t g1 g2=>by
     by_cases e:t=k
     · rw[e];exact q
     · exact h t (by omega) g2)
    exact⟨i,by omega,h2,h3⟩
  · exact⟨k+1,Nat.le_refl _,h,.inr (by rw[Nat.add_sub_cancel];exact q)⟩
theorem lv_ex(c:Nat→Nat):∀n,∃m e,IsLv c n m e
 |0=>⟨0,fun _=>(0,0),fun i j h1 h2 h3=>by omega,fun i h=>by omega,fun s h=>by omega,Nat.le_refl _⟩
 |n+1=>by
  obtain⟨m,e,h⟩:=lv_ex c n;by_cases h0:c n=0
  · exact⟨m,e,h.ord,fun i hi=>by have:=h.is_ i hi;exact⟨by omega,this.2⟩,fun s hs hc=>by
     by_cases q:s=n
     · subst q;omega
     · exact h.all s (by omega) hc,by have:=h.le;omega⟩
  · let e1:Nat→Nat×Nat:=fun i=>if i=m then(c n,n) else e i
    have he:∀i,i<m→e1 i=e i:=fun i hi=>if_neg (by omega)
    have hm:e1 m=(c n,n):=if_pos rfl;have ho:Ord e1 0 m:=h.ord.congr (fun i _ hi=>he i hi);obtain⟨i,i1,i2,i3⟩:=first_of (fun t=>(e1 m).1<(e1 t).1) m m (Nat.le_refl _) (fun t g1 g2=>by omega);have hs:Same e1 (mvd e1 i m) 0 (m+1):=mvd_same e1 (Nat.zero_le _) i1 (by omega);refine⟨m+1,mvd e1 i m,mvd_ord ho (fun t _ g2 _=> ?_) (Nat.zero_le _) i1 i2 (by omega),fun j hj=> ?_,fun s hs' hc=> ?_,by have:=h.le;omega⟩
    · rw[he t g2,hm];exact(h.is_ t g2).1
    · obtain⟨k,_,k2,q⟩:=hs.fro j (Nat.zero_le _) hj
      rw[q];by_cases r:k=m
      · rw[r,hm];exact⟨Nat.lt_succ_self _,Nat.pos_of_ne_zero h0,rfl⟩
      · rw[he k (by omega)];have:=h.is_ k (by omega);exact⟨by omega,this.2⟩
    · by_cases r:s=n
      · obtain⟨k,_,k2,q⟩:=hs.to m (Nat.zero_le _) (by omega)
        exact⟨k,k2,by rw[←q,hm];exact r.symm⟩
      · obtain⟨j,j1,j2⟩:=h.all s (by omega) hc
        obtain⟨k,_,k2,q⟩:=hs.to j (Nat.zero_le _) (by omega);exact⟨k,k2,by rw[←q,he j j1];exact j2⟩
theorem lv_one{c:Nat→Nat}{n m m':Nat}{e e':Nat→Nat×Nat}(h:IsLv c n m e)(h':IsLv c n m' e'):m=m'∧∀i,i<m→e i=e' i:=by
 have key:∀ {m m':Nat} {e e':Nat→Nat×Nat},IsLv c n m e→IsLv c n m' e'→∀i,i<m→∃j,j<m'∧e i=e' j:=by
  intro m m' e e' h h' i hi;obtain⟨a1,a2,a3⟩:=h.is_ i hi;obtain⟨j,j1,j2⟩:=h'.all _ a1 a2;have:=(h'.is_ j j1).2.2;exact⟨j,j1,Prod.ext (by rw[a3,this,j2]) j2.symm⟩
 exact ord_one h.ord h'.ord (key h h') (key h' h)
def lw(e:Nat→Nat×Nat)(i:Nat):Nat:=(e i).1
def ly(e:Nat→Nat×Nat)(i:Nat):Nat:=(e i).2
def pl(m:Nat)(e:Nat→Nat×Nat)(L s:Nat):Nat:=
 if m=0 then 0 else if m=1 then(if s=ly e 0 then 1 else 0) else ct s ((row (lvs (lw e) (ly e) m) L).take (2*m - 2))
theorem lv_rise{c:Nat→Nat}{n m:Nat}{e:Nat→Nat×Nat}(h:IsLv c n m e):Rise (lw e) m:=fun i j h1 h2=>by
 rcases h.ord.le (Nat.zero_le _) h1 h2 with q|q
 · unfold lw;rw[q];exact Nat.le_refl _
 · unfold lx at q;unfold lw;omega
theorem lv_inj{c:Nat→Nat}{n m:Nat}{e:Nat→Nat×Nat}(h:IsLv c n m e):∀i j,i<m→j<m→ly e i=ly e j→i=j:=fun i j hi hj q=>by
 unfold ly at q;have h1:=(h.is_ i hi).2.2;have h2:=(h.is_ j hj).2.2;have he:e i=e j:=Prod.ext (by rw[h1,h2,q]) q;rcases Nat.lt_trichotomy i j with g|g|g
 · have:=h.ord i j (Nat.zero_le _) g hj
   rw[he] at this;exact this.irr.elim
 · exact g
 · have:=h.ord j i (Nat.zero_le _) g hi
   rw[he] at this;exact this.irr.elim
theorem pl_leaf{c:Nat→Nat}{n m L:Nat}{e:Nat→Nat×Nat}(h:IsLv c n m e)(h2:2≤m)(hL:nds m≤L)(h1:1≤L){i:Nat}(hi:i<m):pl m e L (ly e i)=ln (lvs (lw e) (ly e) m) L (2*m - 2) i:=by
 unfold pl;rw[if_neg (by omega),if_neg (by omega)];have:=row_enough (lvs (lw e) (ly e) m) L (by rw[lvs_length];exact(nds_le h1).1 hL);rw[lvs_length] at this;exact ct_row (lv_inj h) hi L _ this
theorem pl_none{c:Nat→Nat}{n m L s:Nat}{e:Nat→Nat×Nat}(h:IsLv c n m e)(hL:nds m≤L)(h1:1≤L)(hs:∀i,i<m→ly e i≠s):pl m e L s=0:=by
 unfold pl;by_cases h0:m=0
 · rw[if_pos h0]
 rw[if_neg h0];by_cases h2:m=1
 · rw[if_pos h2,if_neg (fun q=>hs 0 (by omega) q.symm)]
 rw[if_neg h2];have:=row_enough (lvs (lw e) (ly e) m) L (by rw[lvs_length];exact(nds_le h1).1 hL);rw[lvs_length] at this;exact ct_row0 hs L _ this
theorem pl_le{c:Nat→Nat}{n m L:Nat}{e:Nat→Nat×Nat}(h:IsLv c n m e)(hL:nds m≤L)(h1:1≤L)(s:Nat):pl m e L s≤L:=by
 by_cases q:∃i,i<m∧ly e i=s
 · obtain⟨i,hi,rfl⟩:=q
   by_cases h2:2≤m
   · rw[pl_leaf h h2 hL h1 hi];exact ln_le _ _ _ _
   · unfold pl
     rw[if_neg (by omega),if_pos (by omega)];split<;>omega
 · rw[pl_none h hL h1 (fun i hi e=>q ⟨i,hi,e⟩)];omega
theorem madeByte(w:World)(n:Nat)(hn:n≤400):
 (Instr.makeSlice 23 (.int .i64 (n:Int)) (.int .i64 (n:Int))).run Tryz.prog w=.ok (.slice (some ⟨w.heap.size,0,none⟩) n n) (w.alloc (.cells (madeCells #[.int .u8 0] (n*1)) 5)):=
 run_made w Tryz.underlying23 byteInfo (by decide) n n (Nat.le_refl _) (by omega)
theorem Br.made1(w:World)(n s:Nat)(hs:s<n):Br (w.alloc (.cells ((madeCells #[.int .u8 0] n).setIfInBounds s (.int .u8 1)) 5)) w.heap.size n (fun i=>if i=s then 1 else 0):=by
 have h:=World.rowIs_alloc w ((madeCells #[.int .u8 0] n).setIfInBounds s (.int .u8 1)) 5 (fun i=> .int .u8 ((if i=s then 1 else 0:Nat):Int)) (fun i hi=>by
  have hi':i<n:=by simpa [size_madeCells] using hi
  rw[Array.getElem?_setIfInBounds];by_cases q:i=s
  · subst q;simp[size_madeCells,hi']
  · rw[if_neg (fun r=>q r.symm)]
    simp[madeCells,hi',q,Nat.mod_one])
 rw[Array.size_setIfInBounds,size_madeCells] at h;exact h
def GotLens(W:World)(n m L:Nat)(e:Nat→Nat×Nat)(x:Ending)(w':World):Prop:=
 ∃g,x=.returned (.tuple #[.slice (some ⟨g,0,none⟩) n n,.int .i64 0])∧W.heap.size≤g∧Br w' g n (pl m e L)∧Below W.heap.size W w'
end Go.Proofs.YtdpabanajgegjaaGreatDoor
namespace Go.Proofs.YtdpabanajgegjaaGreatDoor
open Go.Lib (hid)
open Go.RowKit M
def mayB(l:Nat→Nat)(n:Nat):Bool:=decide (May l n)
theorem mayB_true{l:Nat→Nat}{n:Nat}(h:May l n):mayB l n=true:=decide_eq_true h
theorem mayB_false{l:Nat→Nat}{n:Nat}(h:¬May l n):mayB l n=false:=decide_eq_false h
theorem may_any(A:Option Addr)(n c:Nat)(l:Nat→Nat)(w:World)(hn:n≤maxLen)(hl:∀i,l i≤255)(H:Nums w .u8 A n (fun i=>(l i:Int))):
 Calls Tryz.prog 205 #[.slice A n c] w fun e w'=>e=.returned (.bool (mayB l n))∧w=w':=by
 have hn':n≤9223372036854775807:=by unfold maxLen at hn;omega
 clear hn;have HL:=hid hl;clear hl;by_cases h3:n≤320
 · go_enter Tryz.func205,Tryz.ntmps205
   go_wp2
   go_loop [10] (fun i=> ∃k:Nat,k≤n∧i=.int .i64 k∧Hid (∀j,j<k→l j≤15)) (fun i=>n - (intOf i).toNat)
   case atStart=>exact⟨0,Nat.zero_le _,rfl,hid (fun j hj=>by omega)⟩
   case round=>
    obtain⟨k,hk,rfl,hsm⟩:=hrel;by_cases hlt:k<n
    · obtain⟨b,o,rfl,hb,hc⟩:=H (by omega)
      have hcell:=hc k hlt;have h255:=HL.out k;have HH:=hid hc;clear hc;by_cases h15:l k≤15
      · go_wp2
        go_round
        case rel=>exact⟨k+1,by omega,by go_num,hid (fun j hj=>by
         by_cases e:j=k
         · rw[e];exact h15
         · exact hsm.out j (by omega))⟩
        case measure=>simp[intOf];omega
      · have hv:=hid (mayB_false (l:=l) (n:=n) (fun g=>h15 (g.2 k hlt)))
        go_wp2;go_ret;exact⟨by rw[hv.out];rfl,rfl⟩
    · obtain rfl:k=n:=by omega
      have hv:=hid (mayB_true (l:=l) (n:=k) ⟨h3,hsm.out⟩);go_wp2;go_ret;exact⟨by rw[hv.out];rfl,rfl⟩
 · have hv:=hid (mayB_false (l:=l) (n:=n) (fun g=>h3 g.1))
   go_enter Tryz.func205,Tryz.ntmps205;go_wp2;go_ret;exact⟨by rw[hv.out];rfl,rfl⟩
set_option maxHeartbeats 1000000 in
theorem count_any(A:Option Addr)(n c:Nat)(l:Nat→Nat)(W:World)(hm:May l n)(H:Nums W .u8 A n (fun i=>(l i:Int))):
 Calls Tryz.prog 206 #[.slice A n c] W fun e w'=>e=.returned (.agg (TV (c0 l n)))∧Below W.heap.size W w':=by
 have hz:=arrZero;have hn':n≤320:=hm.1;have HL:=hid hm.2;clear hm;go_enter Tryz.func206,Tryz.ntmps206;go_wp2_with fail;clear hz
 go_loopw [8] (fun i wr=> ∃k:Nat,k≤n∧i=.int .i64 k∧Tb wr W.heap.size (fun _=>0)∧Tb wr (W.heap.size+1) (fun s=>cnt l s k)∧Below W.heap.size W wr) (fun i _=>n - (intOf i).toNat)
 case atStart=>
  refine⟨0,Nat.zero_le _,rfl,(Tb.made W _).alloc _,?_,((Below.refl _ _).alloc (Nat.le_refl _) _).alloc (by simp) _⟩;have h:=Tb.made (W.alloc (.cells (TV fun x=>0) 292)) (fun x=>0);rw[show(W.alloc (.cells (TV fun x=>0) 292)).heap.size=W.heap.size+1 by simp] at h;exact h.congr (fun i hi=>rfl)
 case round=>
  obtain⟨k,hk,rfl,ht0,ht1,hb⟩:=hrel;by_cases hlt:k<n
  · obtain⟨b,o,rfl,hbs,hc⟩:=H (by omega)
    have h15:=HL.out k hlt;have hcell:wr.cell? ⟨b,o+k,none⟩=some (.int .u8 (l k)):=(hb.cell hbs).trans (hc k hlt);obtain⟨x,hx⟩:∃x,l k=x:=⟨_,rfl⟩
    rw[hx] at h15 hcell;have hcx:=ht1.cell (show x<16 by omega);have hf:=ht1.frozen x;have hle:=cnt_le l x k;have HX:=hid hx;have HT0:=hid ht0;have HT1:=hid ht1;have HB:=hid hb;have HC:=hid hc;clear ht0 ht1 hb hx hc;go_wp2_with fail;go_roundw
    case rel=>
     refine⟨k+1,by omega,by go_num,HT0.out.other (by simp) _,(HT1.out.set x (cnt l x k+1)).congr ?_,HB.out.setCell (by simp) _⟩;intro i hi;simp only[cnt,HX.out];by_cases e:i=x
     · subst e;simp
     · rw[if_neg e,if_neg (fun g=>e g.symm)];rfl
    case measure=>simp[intOf];omega
  · obtain rfl:k=n:=by omega
    have hcx:=ht1.cell (show 0<16 by omega);have hf:=ht1.frozen 0;have ht2:=(ht1.set 0 0).congr (g:=c0 l k) (fun i hi=>by unfold c0;rfl);have ht3:=ht0.other (a:=⟨W.heap.size+1,0,none⟩) (by simp) (.int .u32 (0:Nat));have hb2:=hb.setCell (p:=⟨W.heap.size+1,0,none⟩) (by simp) (.int .u32 (0:Nat));have HT1:=hid ht2;have HT0:=hid ht3;have HB:=hid hb2;clear ht0 ht1 ht2 ht3 hb hb2;go_wp2_with (first|(refine step_load _ rfl rfl _ rfl (c0 l k) HT1.out ?_)|(refine step_store_row rfl _ _ rfl _ _ (c0 l k) rfl rfl HT0.out ?_));have hr:=HT0.out.setRow (c0 l k);refine bodyPost_ret (v:=.agg (TV (c0 l k))) (results_cell_row rfl _ _ _ _ _ _ _ rfl hr.row Tryz.underlying292 rfl (arrSizeV (c0 l k))) rfl ⟨rfl,below_setRow HB.out _ _ (Nat.le_refl _)⟩
set_option maxHeartbeats 1000000 in
theorem weigh_any(c:Nat→Nat)(W:World)(hc:∀s,s<16→c s≤320):
 Calls Tryz.prog 207 #[.agg (TV c)] W fun e w'=>e=.returned (.int .u32 (aw c 16))∧Below W.heap.size W w':=by
 have HM:=hid (Tb.made W c);have HB:=hid ((Below.refl W.heap.size W).alloc (Nat.le_refl _) (.cells (TV c) 292));have HC:=hid hc;clear hc;go_enter Tryz.func207,Tryz.ntmps207;go_wp2_with (refine step_load _ rfl rfl _ rfl c HM.out ?_)
 go_loop [3,7] (fun x i=> ∃k:Nat,k≤16∧i=.int .i64 k∧x=.int .u32 (aw c k)) (fun _ i=>16 - (intOf i).toNat)
 case atStart=>exact⟨0,Nat.zero_le _,rfl,rfl⟩
 case round=>
  obtain⟨k,hk,rfl,rfl⟩:=hrel;by_cases hlt:k<16
  · have h320:=HC.out k hlt
    have hs:=aw_small HC.out k hk;have hv:=hid (show aw c (k+1)=aw c k+c k*2^(15 - k) from rfl);have hd:decide ((k:Int)<16)=true:=by simp;omega
    have hidx:=fun w=>idxA w c k hlt
    have hq:c k*2^(15 - k)≤320*2^15:=Nat.mul_le_mul h320 (Nat.pow_le_pow_right (by omega) (by omega));obtain⟨d,hdd⟩:∃d,15 - k=d:=⟨_,rfl⟩
    rw[hdd] at hq hv
    have HQ:Hid ((((aw c k:Nat):Int)+(c k:Int)*2^d%4294967296)%4294967296=((aw c (k+1):Nat):Int)):=hid (by
     rw[hv.out];have e:(c k:Int)*2^d=((c k*2^d:Nat):Int):=by push_cast;rfl
     rw[e];omega)
    clear hq;go_wp2_with fail
    go_round
    case rel=>exact⟨k+1,by omega,by go_num,congrArg (Value.int .u32) HQ.out⟩
    case measure=>simp[intOf];omega
  · obtain rfl:k=16:=by omega
    have hd:decide ((16:Int)<16)=false:=by decide
    go_wp2_with fail;go_ret;exact⟨rfl,HB.out⟩
set_option maxHeartbeats 1000000 in
theorem firsts_any(c:Nat→Nat)(W:World)(hc:∀s,s<16→c s≤320):
 Calls Tryz.prog 249 #[.agg (TV c)] W fun e w'=>e=.returned (.agg (TV (fs c)))∧Below W.heap.size W w':=by
 have hz:=arrZero;have HC:=hid hc;clear hc;go_enter Tryz.func249,Tryz.ntmps249;go_wp2_with fail;clear hz
 go_loopw [4] (fun i wr=> ∃k:Nat,k≤15∧i=.int .i64 ((k:Int)+1)∧Tb wr W.heap.size c∧Tb wr (W.heap.size+1) (fun _=>0)∧Tb wr (W.heap.size+2) (fun s=>if s≤k then fs c s else 0)∧Below W.heap.size W wr) (fun i _=>16 - (intOf i).toNat)
 case atStart=>
  refine⟨0,Nat.zero_le _,rfl,((Tb.made W _).alloc _).alloc _,?_,?_,(((Below.refl _ _).alloc (Nat.le_refl _) _).alloc (by simp) _).alloc (by simp;omega) _⟩
  · have h:=Tb.made (W.alloc (.cells (TV c) 292)) (fun x=>0)
    rw[show(W.alloc (.cells (TV c) 292)).heap.size=W.heap.size+1 by simp] at h;exact h.alloc _
  · have h:=Tb.made ((W.alloc (.cells (TV c) 292)).alloc (.cells (TV fun x=>0) 292)) (fun x=>0)
    rw[show((W.alloc (.cells (TV c) 292)).alloc (.cells (TV fun x=>0) 292)).heap.size=W.heap.size+2 by simp] at h;refine h.congr (fun i hi=> ?_)
    split
    · obtain rfl:i=0:=by omega
      rfl
    · rfl
 case round=>
  obtain⟨k,hk,rfl,ht0,ht1,ht2,hb⟩:=hrel;by_cases hlt:k<15
  · have g1:=ht0.cell (show k<16 by omega)
    have g2:=ht2.cell (show k<16 by omega);simp only[if_pos (Nat.le_refl k)] at g2;have g3:=ht2.frozen (k+1);have g4:=ht2.cell (show k+1<16 by omega);have q1:=HC.out k (by omega);have q2:=fs_small HC.out k (by omega);have q3:2^k≤2^15:=Nat.pow_le_pow_right (by omega) (by omega);obtain⟨x,hx⟩:∃x,fs c k=x:=⟨_,rfl⟩
    obtain⟨y,hy⟩:∃y,c k=y:=⟨_,rfl⟩
    obtain⟨z,hz⟩:∃z,(if k+1≤k then fs c (k+1) else 0)=z:=⟨_,rfl⟩
    rw[hx] at g2 q2;rw[hy] at g1 q1;rw[hz] at g4;have w1:IntKind.i64.wrap ((k:Int)+1 - 1)=(k:Int):=by rw[IntWalk.i64_in _ (by omega)];omega
    have w2:IntKind.u32.wrap ((x:Int)+(y:Int))=((x+y:Nat):Int):=by rw[IntKind.wrap_u32];omega
    have w3:IntKind.u32.wrap (((x+y:Nat):Int)*2^1)=(((x+y)*2:Nat):Int):=by rw[IntKind.wrap_u32];omega
    have w4:((k:Int)).toNat=k:=by omega
    have w5:((k:Int)+1).toNat=k+1:=by omega
    have HT0:=hid ht0;have HT1:=hid ht1;have HT2:=hid ht2;have HB:=hid hb;have HX:=hid hx;have HY:=hid hy
    have HV:Hid (((x:Int)+(y:Int))*2%4294967296=((fs c (k+1):Nat):Int)):=hid (by
     simp only[fs];rw[hx,hy];omega)
    clear ht0 ht1 ht2 hb hx hy hz q2 q3;go_wp2_with fail
    go_region
    go_wp2_with fail;go_roundw
    case rel=>
     refine⟨k+1,by omega,by go_num,(HT0.out.other (by simp<;>omega) _),(HT1.out.other (by simp<;>omega) _),?_,(HB.out.setCell (by simp;omega) _).drew⟩
     have h:=(HT2.out.set (k+1) (fs c (k+1))).congr (g:=fun s=>if s≤k+1 then fs c s else 0) (fun i hi=>by
      by_cases e:i=k+1
      · subst e;simp
      · rw[if_neg e]
        by_cases e2:i≤k
        · rw[if_pos e2,if_pos (by omega)]
        · rw[if_neg e2,if_neg (by omega)])
     rw[HV.out];exact h
    case measure=>simp[intOf];omega
  · obtain rfl:k=15:=by omega
    have ht:Tb wr (W.heap.size+2) (fs c):=ht2.congr (fun i hi=>by rw[if_pos (by omega)]);have HT1:=hid ht1;have HT:=hid ht;have HB:=hid hb;clear ht0 ht1 ht2 ht hb;go_wp2_with (first|(refine step_load _ rfl rfl _ rfl (fs c) HT.out ?_)|(refine step_store_row rfl _ _ rfl _ _ (fs c) rfl rfl HT1.out ?_));have hr:=HT1.out.setRow (fs c);refine bodyPost_ret (v:=.agg (TV (fs c))) (results_cell_row rfl _ _ _ _ _ _ _ rfl hr.row Tryz.underlying292 rfl (arrSizeV (fs c))) rfl ⟨rfl,below_setRow HB.out _ _ (by omega)⟩
theorem kind_bad_any(A:Option Addr)(n c:Nat)(l:Nat→Nat)(W:World)(hn:n≤maxLen)(hl:∀i,l i≤255)(H:Nums W .u8 A n (fun i=>(l i:Int)))(hm:¬May l n):
 Calls Tryz.prog 170 #[.slice A n c] W fun e w'=>e=.returned (.int .u8 (kind l n))∧Below W.heap.size W w':=by
 have hv:=hid (kind_bad hm);have hb:=hid (mayB_false hm);have HL:=hid hl;clear hm hl;go_enter Tryz.func170,Tryz.ntmps170;go_wp2_with fail;refine(may_any A n c l _ hn HL.out H).mono ?_;rintro e w' ⟨rfl,rfl⟩;rw[hb.out];go_wp2_with fail;go_ret;exact⟨by rw[hv.out];rfl,Below.refl _ _⟩
set_option maxHeartbeats 1000000 in
theorem kind_none_any(A:Option Addr)(n c:Nat)(l:Nat→Nat)(W:World)(hl:∀i,l i≤255)(H:Nums W .u8 A n (fun i=>(l i:Int)))(hm:May l n)(g x:Nat)(hg:g=weight l n)(hx:x=c0 l n 1)(e0:g=0):
 Calls Tryz.prog 170 #[.slice A n c] W fun e w'=>e=.returned (.int .u8 0)∧Below W.heap.size W w':=by
 have hz:=arrZero;have HL:=hid hl;have HM:=hid hm;have HN:=hid (show n≤maxLen by have:=hm.1;unfold maxLen;omega);have HX:=hid hx;have HG:=hid (show aw (c0 l n) 16=g by rw[hg];exact aw_weight l n hm.2);have HC:=hid (show ∀s,s<16→c0 l n s≤320 from fun s _=>Nat.le_trans (c0_le l n s) hm.1);have hb:=hid (mayB_true hm);have d0:((g:Int)==0)=true:=by rw[beq_iff_eq];omega
 clear hm hl hx hg e0;go_enter Tryz.func170,Tryz.ntmps170;go_wp2_with fail;refine(may_any A n c l _ HN.out HL.out H).mono ?_;rintro e w' ⟨rfl,rfl⟩;rw[hb.out];go_wp2_with fail;refine(count_any A n c l _ HM.out H).mono ?_;rintro e w1 ⟨rfl,b1⟩;have B1:=hid b1;clear b1;have T1:=hid (Tb.made w1 (c0 l n));go_wp2_with (first|(refine step_store rfl _ _ rfl _ (c0 l n) rfl rfl ?_)|(refine step_load _ rfl rfl _ rfl (c0 l n) T1.out ?_));clear hz;refine(weigh_any (c0 l n) _ HC.out).mono ?_;rintro e w2 ⟨rfl,b2⟩;rw[HG.out];have B2:=hid b2;have T2:=hid (T1.out.below b2 (by simp));have hc1:=T2.out.cell (show 1<16 by decide);rw[←HX.out] at hc1;clear b2;go_wp2_with fail;go_ret;exact⟨rfl,(B1.out.alloc B1.out.size _).trans (B2.out.mono (Nat.le_trans B1.out.size (by simp)))⟩
set_option maxHeartbeats 1000000 in
theorem kind_over_any(A:Option Addr)(n c:Nat)(l:Nat→Nat)(W:World)(hl:∀i,l i≤255)(H:Nums W .u8 A n (fun i=>(l i:Int)))(hm:May l n)(g x:Nat)(hg:g=weight l n)(hx:x=c0 l n 1)(e1:32768<g):
 Calls Tryz.prog 170 #[.slice A n c] W fun e w'=>e=.returned (.int .u8 4)∧Below W.heap.size W w':=by
 have hz:=arrZero;have HL:=hid hl;have HM:=hid hm;have HN:=hid (show n≤maxLen by have:=hm.1;unfold maxLen;omega);have HX:=hid hx;have HG:=hid (show aw (c0 l n) 16=g by rw[hg];exact aw_weight l n hm.2);have HC:=hid (show ∀s,s<16→c0 l n s≤320 from fun s _=>Nat.le_trans (c0_le l n s) hm.1);have hb:=hid (mayB_true hm);have d0:((g:Int)==0)=false:=by rw[beq_eq_false_iff_ne];omega
 clear hm hl hx hg;go_enter Tryz.func170,Tryz.ntmps170;go_wp2_with fail;refine(may_any A n c l _ HN.out HL.out H).mono ?_;rintro e w' ⟨rfl,rfl⟩;rw[hb.out];go_wp2_with fail;refine(count_any A n c l _ HM.out H).mono ?_;rintro e w1 ⟨rfl,b1⟩;have B1:=hid b1;clear b1;have T1:=hid (Tb.made w1 (c0 l n));go_wp2_with (first|(refine step_store rfl _ _ rfl _ (c0 l n) rfl rfl ?_)|(refine step_load _ rfl rfl _ rfl (c0 l n) T1.out ?_));clear hz;refine(weigh_any (c0 l n) _ HC.out).mono ?_;rintro e w2 ⟨rfl,b2⟩;rw[HG.out];have B2:=hid b2;have T2:=hid (T1.out.below b2 (by simp));have hc1:=T2.out.cell (show 1<16 by decide);rw[←HX.out] at hc1;clear b2;go_wp2_with fail;go_ret;exact⟨rfl,(B1.out.alloc B1.out.size _).trans (B2.out.mono (Nat.le_trans B1.out.size (by simp)))⟩
set_option maxHeartbeats 1000000 in
theorem kind_whole_any(A:Option Addr)(n c:Nat)(l:Nat→Nat)(W:World)(hl:∀i,l i≤255)(H:Nums W .u8 A n (fun i=>(l i:Int)))(hm:May l n)(g x:Nat)(hg:g=weight l n)(hx:x=c0 l n 1)(e2:g=32768):
 Calls Tryz.prog 170 #[.slice A n c] W fun e w'=>e=.returned (.int .u8 2)∧Below W.heap.size W w':=by
 have hz:=arrZero;have HL:=hid hl;have HM:=hid hm;have HN:=hid (show n≤maxLen by have:=hm.1;unfold maxLen;omega);have HX:=hid hx;have HG:=hid (show aw (c0 l n) 16=g by rw[hg];exact aw_weight l n hm.2);have HC:=hid (show ∀s,s<16→c0 l n s≤320 from fun s _=>Nat.le_trans (c0_le l n s) hm.1);have hb:=hid (mayB_true hm);have d0:((g:Int)==0)=false:=by rw[beq_eq_false_iff_ne];omega
 have d1:decide (32768<(g:Int))=false:=decide_eq_false (by omega);have d2:((g:Int)==32768)=true:=by rw[beq_iff_eq];omega
 clear hm hl hx hg e2;go_enter Tryz.func170,Tryz.ntmps170;go_wp2_with fail;refine(may_any A n c l _ HN.out HL.out H).mono ?_;rintro e w' ⟨rfl,rfl⟩;rw[hb.out];go_wp2_with fail;refine(count_any A n c l _ HM.out H).mono ?_;rintro e w1 ⟨rfl,b1⟩;have B1:=hid b1;clear b1;have T1:=hid (Tb.made w1 (c0 l n));go_wp2_with (first|(refine step_store rfl _ _ rfl _ (c0 l n) rfl rfl ?_)|(refine step_load _ rfl rfl _ rfl (c0 l n) T1.out ?_));clear hz;refine(weigh_any (c0 l n) _ HC.out).mono ?_;rintro e w2 ⟨rfl,b2⟩;rw[HG.out];have B2:=hid b2;have T2:=hid (T1.out.below b2 (by simp));have hc1:=T2.out.cell (show 1<16 by decide);rw[←HX.out] at hc1;clear b2;go_wp2_with fail;go_ret;exact⟨rfl,(B1.out.alloc B1.out.size _).trans (B2.out.mono (Nat.le_trans B1.out.size (by simp)))⟩
set_option maxHeartbeats 1000000 in
theorem kind_one_any(A:Option Addr)(n c:Nat)(l:Nat→Nat)(W:World)(hl:∀i,l i≤255)(H:Nums W .u8 A n (fun i=>(l i:Int)))(hm:May l n)(g x:Nat)(hg:g=weight l n)(hx:x=c0 l n 1)(e3:g=16384)(e4:x=1):
 Calls Tryz.prog 170 #[.slice A n c] W fun e w'=>e=.returned (.int .u8 1)∧Below W.heap.size W w':=by
 have hz:=arrZero;have HL:=hid hl;have HM:=hid hm;have HN:=hid (show n≤maxLen by have:=hm.1;unfold maxLen;omega);have HX:=hid hx;have HG:=hid (show aw (c0 l n) 16=g by rw[hg];exact aw_weight l n hm.2);have HC:=hid (show ∀s,s<16→c0 l n s≤320 from fun s _=>Nat.le_trans (c0_le l n s) hm.1);have hb:=hid (mayB_true hm);have d0:((g:Int)==0)=false:=by rw[beq_eq_false_iff_ne];omega
 have d1:decide (32768<(g:Int))=false:=decide_eq_false (by omega);have d2:((g:Int)==32768)=false:=by rw[beq_eq_false_iff_ne];omega
 have d3:((x:Int)==1)=true:=by rw[beq_iff_eq];omega
 have d4:((g:Int)==16384)=true:=by rw[beq_iff_eq];omega
 clear hm hl hx hg e3 e4;go_enter Tryz.func170,Tryz.ntmps170;go_wp2_with fail;refine(may_any A n c l _ HN.out HL.out H).mono ?_;rintro e w' ⟨rfl,rfl⟩;rw[hb.out];go_wp2_with fail;refine(count_any A n c l _ HM.out H).mono ?_;rintro e w1 ⟨rfl,b1⟩;have B1:=hid b1;clear b1;have T1:=hid (Tb.made w1 (c0 l n));go_wp2_with (first|(refine step_store rfl _ _ rfl _ (c0 l n) rfl rfl ?_)|(refine step_load _ rfl rfl _ rfl (c0 l n) T1.out ?_));clear hz;refine(weigh_any (c0 l n) _ HC.out).mono ?_;rintro e w2 ⟨rfl,b2⟩;rw[HG.out];have B2:=hid b2;have T2:=hid (T1.out.below b2 (by simp));have hc1:=T2.out.cell (show 1<16 by decide);rw[←HX.out] at hc1;clear b2;go_wp2_with fail;go_ret;exact⟨rfl,(B1.out.alloc B1.out.size _).trans (B2.out.mono (Nat.le_trans B1.out.size (by simp)))⟩
set_option maxHeartbeats 1000000 in
theorem kind_less1_any(A:Option Addr)(n c:Nat)(l:Nat→Nat)(W:World)(hl:∀i,l i≤255)(H:Nums W .u8 A n (fun i=>(l i:Int)))(hm:May l n)(g x:Nat)(hg:g=weight l n)(hx:x=c0 l n 1)(e5:g≠0)(e6:g<32768)(e4:x≠1):
 Calls Tryz.prog 170 #[.slice A n c] W fun e w'=>e=.returned (.int .u8 3)∧Below W.heap.size W w':=by
 have hz:=arrZero;have HL:=hid hl;have HM:=hid hm;have HN:=hid (show n≤maxLen by have:=hm.1;unfold maxLen;omega);have HX:=hid hx;have HG:=hid (show aw (c0 l n) 16=g by rw[hg];exact aw_weight l n hm.2);have HC:=hid (show ∀s,s<16→c0 l n s≤320 from fun s _=>Nat.le_trans (c0_le l n s) hm.1);have hb:=hid (mayB_true hm);have d0:((g:Int)==0)=false:=by rw[beq_eq_false_iff_ne];omega
 have d1:decide (32768<(g:Int))=false:=decide_eq_false (by omega);have d2:((g:Int)==32768)=false:=by rw[beq_eq_false_iff_ne];omega
 have d3:((x:Int)==1)=false:=by rw[beq_eq_false_iff_ne];omega
 clear hm hl hx hg e5 e4;go_enter Tryz.func170,Tryz.ntmps170;go_wp2_with fail;refine(may_any A n c l _ HN.out HL.out H).mono ?_;rintro e w' ⟨rfl,rfl⟩;rw[hb.out];go_wp2_with fail;refine(count_any A n c l _ HM.out H).mono ?_;rintro e w1 ⟨rfl,b1⟩;have B1:=hid b1;clear b1;have T1:=hid (Tb.made w1 (c0 l n));go_wp2_with (first|(refine step_store rfl _ _ rfl _ (c0 l n) rfl rfl ?_)|(refine step_load _ rfl rfl _ rfl (c0 l n) T1.out ?_));clear hz;refine(weigh_any (c0 l n) _ HC.out).mono ?_;rintro e w2 ⟨rfl,b2⟩;rw[HG.out];have B2:=hid b2;have T2:=hid (T1.out.below b2 (by simp));have hc1:=T2.out.cell (show 1<16 by decide);rw[←HX.out] at hc1;clear b2;go_wp2_with fail;go_ret;exact⟨rfl,(B1.out.alloc B1.out.size _).trans (B2.out.mono (Nat.le_trans B1.out.size (by simp)))⟩
set_option maxHeartbeats 1000000 in
theorem kind_less2_any(A:Option Addr)(n c:Nat)(l:Nat→Nat)(W:World)(hl:∀i,l i≤255)(H:Nums W .u8 A n (fun i=>(l i:Int)))(hm:May l n)(g x:Nat)(hg:g=weight l n)(hx:x=c0 l n 1)(e5:g≠0)(e6:g<32768)(e4:x=1)(e3:g≠16384):
 Calls Tryz.prog 170 #[.slice A n c] W fun e w'=>e=.returned (.int .u8 3)∧Below W.heap.size W w':=by
 have hz:=arrZero;have HL:=hid hl;have HM:=hid hm;have HN:=hid (show n≤maxLen by have:=hm.1;unfold maxLen;omega);have HX:=hid hx;have HG:=hid (show aw (c0 l n) 16=g by rw[hg];exact aw_weight l n hm.2);have HC:=hid (show ∀s,s<16→c0 l n s≤320 from fun s _=>Nat.le_trans (c0_le l n s) hm.1);have hb:=hid (mayB_true hm);have d0:((g:Int)==0)=false:=by rw[beq_eq_false_iff_ne];omega
 have d1:decide (32768<(g:Int))=false:=decide_eq_false (by omega);have d2:((g:Int)==32768)=false:=by rw[beq_eq_false_iff_ne];omega
 have d3:((x:Int)==1)=true:=by rw[beq_iff_eq];omega
 have d4:((g:Int)==16384)=false:=by rw[beq_eq_false_iff_ne];omega
 clear hm hl hx hg e5 e4 e3;go_enter Tryz.func170,Tryz.ntmps170;go_wp2_with fail;refine(may_any A n c l _ HN.out HL.out H).mono ?_;rintro e w' ⟨rfl,rfl⟩;rw[hb.out];go_wp2_with fail;refine(count_any A n c l _ HM.out H).mono ?_;rintro e w1 ⟨rfl,b1⟩;have B1:=hid b1;clear b1;have T1:=hid (Tb.made w1 (c0 l n));go_wp2_with (first|(refine step_store rfl _ _ rfl _ (c0 l n) rfl rfl ?_)|(refine step_load _ rfl rfl _ rfl (c0 l n) T1.out ?_));clear hz;refine(weigh_any (c0 l n) _ HC.out).mono ?_;rintro e w2 ⟨rfl,b2⟩;rw[HG.out];have B2:=hid b2;have T2:=hid (T1.out.below b2 (by simp));have hc1:=T2.out.cell (show 1<16 by decide);rw[←HX.out] at hc1;clear b2;go_wp2_with fail;go_ret;exact⟨rfl,(B1.out.alloc B1.out.size _).trans (B2.out.mono (Nat.le_trans B1.out.size (by simp)))⟩
theorem kind_any(A:Option Addr)(n c:Nat)(l:Nat→Nat)(W:World)(hn:n≤maxLen)(hl:∀i,l i≤255)(H:Nums W .u8 A n (fun i=>(l i:Int))):
 Calls Tryz.prog 170 #[.slice A n c] W fun e w'=>e=.returned (.int .u8 (kind l n))∧Below W.heap.size W w':=by
 by_cases hm:May l n
 · have hk:=kind_of hm
   obtain⟨g,hg⟩:∃g,g=weight l n:=⟨_,rfl⟩
   obtain⟨x,hx⟩:∃x,x=c0 l n 1:=⟨_,rfl⟩
   rw[←hg,←hx] at hk;by_cases e0:g=0
   · rw[hk,if_pos e0];exact kind_none_any A n c l W hl H hm g x hg hx e0
   rw[if_neg e0] at hk;by_cases e1:32768<g
   · rw[hk,if_pos e1];exact kind_over_any A n c l W hl H hm g x hg hx e1
   rw[if_neg e1] at hk;by_cases e2:g=32768
   · rw[hk,if_pos e2];exact kind_whole_any A n c l W hl H hm g x hg hx e2
   rw[if_neg e2] at hk;by_cases e4:x=1
   · by_cases e3:g=16384
     · rw[hk,if_pos ⟨e4,e3⟩];exact kind_one_any A n c l W hl H hm g x hg hx e3 e4
     · rw[hk,if_neg (fun q=>e3 q.2)];exact kind_less2_any A n c l W hl H hm g x hg hx e0 (by omega) e4 e3
   · rw[hk,if_neg (fun q=>e4 q.1)];exact kind_less1_any A n c l W hl H hm g x hg hx e0 (by omega) e4
 · exact kind_bad_any A n c l W hn hl H hm
end Go.Proofs.YtdpabanajgegjaaGreatDoor
namespace Go.Proofs.YtdpabanajgegjaaGreatDoor
open Go.RowKit M
theorem sm_pick{m i0 x:Nat}(P:Nat→Prop)[DecidablePred P](h0:i0<m)(hp:P i0)(hu:∀i,i<m→P i→i=i0):sm (fun i=>if P i then x else 0) m=x:=by
 induction m with
 |zero=>omega
 |succ m ih=>
  simp only[sm];by_cases q:i0=m
  · subst q
    rw[if_pos hp,sm_congr i0 (g:=fun _=>0) (fun i hi=>if_neg (fun g=>by have:=hu i (by omega) g;omega)),sm_zero];omega
  · rw[ih (by omega) (fun i hi g=>hu i (by omega) g),if_neg (fun g=>q (hu m (by omega) g).symm)];omega
theorem sm_at(F:Nat→Nat){n a:Nat}(h:a<n):sm (fun s=>if a=s then F s else 0) n=F a:=by
 rw[sm_congr n (g:=fun s=>if a=s then F a else 0) (fun s _=>by by_cases q:a=s<;>simp[q])];exact sm_pick (fun s=>a=s) h rfl (fun i _ g=>g.symm)
section
variable {c:Nat→Nat} {n m L K:Nat} {e:Nat→Nat×Nat}
theorem reidx(h:IsLv c n m e)(F:Nat→Nat)(hF:∀s,s<n→c s=0→F s=0):sm F n=sm (fun i=>F (ly e i)) m:=by
 have h1:∀s,s<n→sm (fun i=>if ly e i=s then F s else 0) m=F s:=by
  intro s hs;by_cases q:c s=0
  · rw[hF s hs q]
    rw[sm_congr m (g:=fun _=>0) (fun i _=>by split<;>rfl),sm_zero]
  · obtain⟨i,hi,r⟩:=h.all s hs (Nat.pos_of_ne_zero q)
    exact sm_pick (fun i=>ly e i=s) hi r (fun j hj g=>lv_inj h j i hj hi (g.trans r.symm))
 rw[←sm_congr n h1,sm_swap];exact sm_congr m (fun i hi=>sm_at F (h.is_ i hi).1)
theorem pl_zero(h:IsLv c n m e)(hL:nds m≤L)(h1:1≤L){s:Nat}(hs:s<n):pl m e L s=0↔c s=0:=by
 constructor
 · intro g
   apply Classical.byContradiction
   intro q;obtain⟨i,hi,rfl⟩:=h.all s hs (Nat.pos_of_ne_zero q);by_cases h2:2≤m
   · have hp:=ln_pos (lvs_up (g:=ly e) (lv_rise h)) (by rw[lvs_length];exact h2) (k:=L) (i:=i) (row_enough _ L (by rw[lvs_length];exact(nds_le h1).1 hL)) (by rw[lvs_length];exact hi)
     rw[lvs_length] at hp;have:=pl_leaf h h2 hL h1 hi;unfold ly at this;rw[g] at this;unfold ly at hp;omega
   · unfold pl at g
     rw[if_neg (by omega),if_pos (by omega),if_pos (by unfold ly;rw[show i=0 by omega])] at g;omega
 · intro g
   refine pl_none h hL h1 (fun i hi q=> ?_);have:=(h.is_ i hi).2.1;unfold ly at q;rw[q] at this;omega
theorem pl_kraft(h:IsLv c n m e)(h2:2≤m)(hL:nds m≤L)(h1:1≤L):sm (fun i=>2^(L - pl m e L (ly e i))) m=2^L:=by
 have hk:=kraft (lvs_up (g:=ly e) (lv_rise h)) L (by rw[lvs_length];omega) (row_enough _ L (by rw[lvs_length];exact(nds_le h1).1 hL));rw[lvs_length] at hk;rw[←hk];exact sm_congr m (fun i hi=>by rw[pl_leaf h h2 hL h1 hi])
theorem pow_shift{L K x:Nat}(hx:x≤L)(hK:L≤K):2^(K - x)=2^(L - x)*2^(K - L):=by
 rw[←Nat.pow_add];congr 1;omega
end
theorem weight_sm(l:Nat→Nat):∀n,weight l n=sm (fun s=>wt (l s)) n
 |0=>rfl
 |n+1=>by simp only[weight,sm];rw[weight_sm l n]
theorem cnt_sm(l:Nat→Nat)(x:Nat):∀n,cnt l x n=sm (fun s=>if l s=x then 1 else 0) n
 |0=>rfl
 |n+1=>by
  have:cnt l x (n+1)=cnt l x n+if l n=x then 1 else 0:=rfl
  rw[this,cnt_sm l x n];rfl
theorem pl_may{c:Nat→Nat}{n m L:Nat}{e:Nat→Nat×Nat}(h:IsLv c n m e)(hn:n≤320)(hL:nds m≤L)(h1:1≤L)(h15:L≤15):May (pl m e L) n:=⟨hn,fun i _=>Nat.le_trans (pl_le h hL h1 i) h15⟩
theorem pl_kind{c:Nat→Nat}{n m L:Nat}{e:Nat→Nat×Nat}(h:IsLv c n m e)(hn:n≤320)(hL:nds m≤L)(h1:1≤L)(h15:L≤15):kind (pl m e L) n=if m=0 then 0 else if m=1 then 1 else 2:=by
 have hw:weight (pl m e L) n=sm (fun i=>wt (pl m e L (ly e i))) m:=by
  rw[weight_sm,reidx h _ (fun s hs g=>by rw[(pl_zero h hL h1 hs).2 g];rfl)]
 rw[kind_of (pl_may h hn hL h1 h15)];by_cases m0:m=0
 · subst m0
   rw[if_pos rfl,hw];rfl
 rw[if_neg m0];by_cases m1:m=1
 · subst m1
   have hp:pl 1 e L (ly e 0)=1:=by unfold pl;rw[if_neg m0,if_pos rfl,if_pos rfl]
   have w1:weight (pl 1 e L) n=16384:=by rw[hw];simp only[sm];rw[hp];rfl
   have c1:c0 (pl 1 e L) n 1=1:=by
    unfold c0;rw[if_neg (by omega),cnt_sm,reidx h _ (fun s hs g=>by rw[(pl_zero h hL h1 hs).2 g,if_neg (by omega)])];simp only[sm];rw[hp];rfl
   rw[if_pos rfl,w1,c1];rfl
 · rw[if_neg m1]
   have h2:2≤m:=by omega
   have w2:weight (pl m e L) n=32768:=by
    have kr:=pl_kraft h h2 hL h1;rw[hw]
    have e1:sm (fun i=>wt (pl m e L (ly e i))) m=sm (fun i=>2^(L - pl m e L (ly e i))) m*2^(15 - L):=by
     rw[←sm_mul];refine sm_congr m (fun i hi=> ?_)
     have hne:pl m e L (ly e i)≠0:=fun g=>by
      have:=(pl_zero h hL h1 (h.is_ i hi).1).1 g;have:=(h.is_ i hi).2.1;omega
     unfold M.wt;rw[if_neg hne];exact pow_shift (pl_le h hL h1 _) h15
    rw[e1,kr,←Nat.pow_add,show L+(15 - L)=15 by omega]
   rw[w2];rfl
end Go.Proofs.YtdpabanajgegjaaGreatDoor
namespace Go.Proofs.YtdpabanajgegjaaGreatDoor
open Go.Lib (hid)
open Go.RowKit M
theorem nds_at{n k:Nat}(h1:1≤k)(h2:n≤2^k)(h3:1≤n)(h4:k=1∨2^(k - 1)<n):nds n=k:=by
 have a:=(nds_le h1).2 h2;have b:1≤nds n:=by unfold nds;rw[if_neg (by omega)];exact Nat.le_max_left _ _
 by_cases q:k=1
 · omega
 · have d:=mt (nds_le (n:=n) (k:=k - 1) (by omega)).1 (by omega)
   omega
set_option maxHeartbeats 1000000 in
theorem rneeds_any(n:Int)(w:World)(h0: -9223372036854775808≤n)(h1:n≤1099511627776):Calls Tryz.prog 103 #[.int .i64 n] w fun e w'=>e=.returned (.int .i64 (nds n.toNat))∧w=w':=by
 by_cases h:n<1
 · have hv:=hid (nds_zero h)
   go_enter Tryz.func103,Tryz.ntmps103;go_wp2_with fail;go_ret;exact⟨by rw[hv.out];rfl,rfl⟩
 · go_enter Tryz.func103,Tryz.ntmps103
   go_wp2_with fail
   go_loop [3,4] (fun q r=> ∃k x:Nat,q=.int .i64 k∧r=.int .i64 x∧1≤k∧k≤41∧x≤2199023255552∧Hid (x=2^k∧(k=1∨2^(k - 1)<n.toNat))) (fun q _=>41 - (intOf q).toNat)
   case atStart=>exact⟨1,2,rfl,rfl,by omega,by omega,by omega,hid ⟨rfl,.inl rfl⟩⟩
   case round=>
    obtain⟨k,x,rfl,rfl,k1,k2,x2,HX⟩:=hrel;by_cases hlt:(x:Int)<n
    · have hk:k<40:=by
       have e:=HX.out.1;have g:(2:Nat)^40=1099511627776:=rfl;have:2^k<2^40:=by rw[←e];omega
       exact(Nat.pow_lt_pow_iff_right (by decide)).1 this
      go_wp2_with fail
      go_round
      case rel=>exact⟨k+1,2*x,by go_num,by go_num,by omega,by omega,by omega,hid ⟨by rw[HX.out.1,Nat.pow_succ];omega,.inr (by rw[Nat.add_sub_cancel,←HX.out.1];omega)⟩⟩
      case measure=>simp[intOf];omega
    · have HV:=hid (nds_at (n:=n.toNat) k1 (by rw[←HX.out.1];omega) (by omega) HX.out.2)
      go_wp2_with fail;go_ret;exact⟨by rw[HV.out];rfl,rfl⟩
def two(a b:Value)(i:Nat):Value:=if i=0 then a else b
def R2(w:World)(g:Nat)(a b:Value):Prop:=w.rowIs g 171 2 (two a b)
section
variable {w w':World} {g:Nat} {a b:Value}
theorem R2.new(w:World)(a b:Value):R2 (w.alloc (.cells #[a,b] 171)) w.heap.size a b:=⟨#[a,b],heap_alloc_new _ _,rfl,fun i hi=>by
 match i,hi with
 |0,_=>rfl
 |1,_=>rfl⟩
theorem R2.alloc(h:R2 w g a b)(o:Obj):R2 (w.alloc o) g a b:=World.rowIs.alloc h o
theorem R2.drew(h:R2 w g a b):R2 w.drew g a b:=h
theorem R2.other(h:R2 w g a b){x:Addr}(hx:g≠x.block)(u:Value):R2 (w.setCell x u) g a b:=World.rowIs.setOther h hx u
theorem R2.at0(h:R2 w g a b):w.cell? ⟨g,0,none⟩=some a:=World.rowIs.cell h (i:=0) (by omega)
theorem R2.at1(h:R2 w g a b):w.cell? ⟨g,1,none⟩=some b:=World.rowIs.cell h (i:=1) (by omega)
theorem R2.frozen(h:R2 w g a b)(i:Nat):w.frozen? ⟨g,i,none⟩=false:=World.rowIs.frozen h i
theorem R2.put(h:R2 w g a b)(c d:Value):R2 ((w.setCell ⟨g,0,none⟩ c).setCell ⟨g,1,none⟩ d) g c d:=
 World.rowIs.congr (World.rowIs.set (World.rowIs.set h 0 c) 1 d) (fun j hj=>by
  match j,hj with
  |0,_=>rfl
  |1,_=>rfl)
theorem R2.row(h:R2 w g a b):w.heap[g]? =some (.cells #[a,b] 171 (0,0)):=by
 obtain⟨c,h1,h2,h3⟩:=h
 have:c= #[a,b]:=by
  apply Array.ext_getElem?
  intro i
  match i with
  |0=>exact h3 0 (by omega)
  |1=>exact h3 1 (by omega)
  |i+2=>rw[Array.getElem?_eq_none (by omega),Array.getElem?_eq_none (by simp)]
 rw[h1,this]
end
theorem thing2Size:(Tryz.prog.info? 171).map (fun i=>i.size)=some 2:=by kernel_rfl
theorem thing2Info:(Tryz.prog.info? 171).map (fun i=>(i.zero,i.size,i.bytes))=some (some (.agg #[.int .i64 0,.slice none 0 0]),2,32):=by kernel_rfl
set_option maxHeartbeats 1000000 in
theorem rleaf_any(x k n:Nat)(W:World)(hn:n≤320)(hk:k<n):
 Calls Tryz.prog 104 #[.int .i64 x,.int .i64 k,.int .i64 n] W fun e w'=> ∃g,e=.returned (.agg #[.int .i64 x,.slice (some ⟨g,0,none⟩) n n])∧W.heap.size≤g∧Br w' g n (fun j=>if j=k then 1 else 0)∧Below W.heap.size W w':=by
 have hmk:=fun w=>madeByte w n (by omega)
 have mg:(madeCells #[Value.int .u8 0] n)[k]? =some (.int .u8 0):=by simp[madeCells,hk,Nat.mod_one]
 have HB:=hid (Br.made1 (W.alloc (.cells #[.int .i64 x,.slice (some ⟨W.heap.size+1,0,none⟩) n n] 171)) n k hk);have HR:=hid (R2.new W (.int .i64 x) (.slice (some ⟨W.heap.size+1,0,none⟩) n n));go_enter Tryz.func104,Tryz.ntmps104;go_wp2_with fail;refine bodyPost_ret (v:=.agg #[.int .i64 x,.slice (some ⟨W.heap.size+1,0,none⟩) n n]) (results_cell_row rfl _ _ W.heap.size _ _ _ _ rfl ((HR.out.alloc _).alloc _).row Tryz.underlying171 rfl thing2Size) rfl ⟨_,rfl,by omega,?_,?_⟩
 · have h:=HB.out
   rw[show(W.alloc (.cells #[.int .i64 x,.slice (some ⟨W.heap.size+1,0,none⟩) n n] 171)).heap.size=W.heap.size+1 by simp] at h;exact h.alloc _
 · exact(((Below.refl _ _).alloc (Nat.le_refl _) _).alloc (by simp) _).alloc (by simp;omega) _
set_option maxHeartbeats 1000000 in
theorem rboth_any(x y ga gb n:Nat)(f h:Nat→Nat)(W:World)(hn:n≤320)(hx:x≤1125899906842624)(hy:y≤1125899906842624)(H1:Br W ga n f)(H2:Br W gb n h):
 Calls Tryz.prog 144 #[.agg #[.int .i64 x,.slice (some ⟨ga,0,none⟩) n n],.agg #[.int .i64 y,.slice (some ⟨gb,0,none⟩) n n]] W fun e w'=> ∃g,e=.returned (.agg #[.int .i64 ((x+y:Nat):Int),.slice (some ⟨g,0,none⟩) n n])∧W.heap.size≤g∧Br w' g n (fun j=>(f j+h j)%256)∧Below W.heap.size W w':=by
 have hmk:=fun w=>madeByte w n (by omega)
 have B1:=hid H1;have B2:=hid H2;have hxy:((x+y:Nat):Int)=(x:Int)+(y:Int):=by omega
 clear H1 H2;go_enter Tryz.func144,Tryz.ntmps144;go_wp2_with fail
 go_region
 all_goals go_wp2_with fail
 all_goals clear hmk
 · go_loopw [6] (fun v wr=> ∃i:Nat,v=.int .i64 i∧i≤n∧R2 wr W.heap.size (.int .i64 x) (.slice (some ⟨ga,0,none⟩) n n)∧R2 wr (W.heap.size+1) (.int .i64 y) (.slice (some ⟨gb,0,none⟩) n n)∧R2 wr (W.heap.size+1+1) (.int .i64 0) (.slice none 0 0)
    ∧R2 wr (W.heap.size+1+1+1+1) (.int .i64 ((x:Int)+(y:Int))) (.slice (some ⟨W.heap.size+1+1+1,0,none⟩) n n)∧Br wr (W.heap.size+1+1+1) n (fun j=>if j<i then(f j+h j)%256 else 0)∧Below W.heap.size W wr) (fun v _=>n - (intOf v).toNat)
   case atStart=>
    refine⟨0,rfl,Nat.zero_le _,?_,?_,?_,?_,?_,?_⟩
    · exact((((R2.new W _ _).alloc _).alloc _).alloc _).alloc _
    · have q:=R2.new (W.alloc (.cells #[.int .i64 x,.slice (some ⟨ga,0,none⟩) n n] 171)) (.int .i64 y) (.slice (some ⟨gb,0,none⟩) n n)
      rw[show(W.alloc (.cells #[.int .i64 x,.slice (some ⟨ga,0,none⟩) n n] 171)).heap.size=W.heap.size+1 by simp] at q;exact((q.alloc _).alloc _).alloc _
    · have q:=R2.new ((W.alloc (.cells #[.int .i64 x,.slice (some ⟨ga,0,none⟩) n n] 171)).alloc (.cells #[.int .i64 y,.slice (some ⟨gb,0,none⟩) n n] 171)) (.int .i64 0) (.slice none 0 0)
      rw[show((W.alloc (.cells #[.int .i64 x,.slice (some ⟨ga,0,none⟩) n n] 171)).alloc (.cells #[.int .i64 y,.slice (some ⟨gb,0,none⟩) n n] 171)).heap.size=W.heap.size+1+1 by simp] at q;exact(q.alloc _).alloc _
    · have q:=R2.new ((((W.alloc (.cells #[.int .i64 x,.slice (some ⟨ga,0,none⟩) n n] 171)).alloc (.cells #[.int .i64 y,.slice (some ⟨gb,0,none⟩) n n] 171)).alloc (.cells #[.int .i64 0,.slice none 0 0] 171)).alloc (.cells (madeCells #[.int .u8 0] n) 5)) (.int .i64 ((x:Int)+(y:Int))) (.slice (some ⟨W.heap.size+1+1+1,0,none⟩) n n)
      rw[show((((W.alloc (.cells #[.int .i64 x,.slice (some ⟨ga,0,none⟩) n n] 171)).alloc (.cells #[.int .i64 y,.slice (some ⟨gb,0,none⟩) n n] 171)).alloc (.cells #[.int .i64 0,.slice none 0 0] 171)).alloc (.cells (madeCells #[.int .u8 0] n) 5)).heap.size=W.heap.size+1+1+1+1 by simp] at q;exact q
    · have q:=Br.made' (((W.alloc (.cells #[.int .i64 x,.slice (some ⟨ga,0,none⟩) n n] 171)).alloc (.cells #[.int .i64 y,.slice (some ⟨gb,0,none⟩) n n] 171)).alloc (.cells #[.int .i64 0,.slice none 0 0] 171)) n
      rw[show(((W.alloc (.cells #[.int .i64 x,.slice (some ⟨ga,0,none⟩) n n] 171)).alloc (.cells #[.int .i64 y,.slice (some ⟨gb,0,none⟩) n n] 171)).alloc (.cells #[.int .i64 0,.slice none 0 0] 171)).heap.size=W.heap.size+1+1+1 by simp] at q;exact(q.alloc _).congr (fun i _=>by rw[if_neg (by omega)])
    · exact(((((Below.refl _ _).alloc (Nat.le_refl _) _).alloc (by simp) _).alloc (by simp;omega) _).alloc (by simp;omega) _).alloc (by simp;omega) _|>.drew
   case round=>
    obtain⟨i,rfl,hi,r1,r2,r3,r4,hb,hw⟩:=hrel;have p0:=r1.at1;have p1:=r2.at1;have p2:=r4.at1;by_cases hlt:i<n
    · have c1:=(B1.out.below hw B1.out.lt).cell hlt
      have c2:=(B2.out.below hw B2.out.lt).cell hlt;have c3:=hb.cell hlt;have f3:=hb.frozen i;obtain⟨u,hu⟩:∃u,f i=u:=⟨_,rfl⟩
      obtain⟨v,hv⟩:∃v,h i=v:=⟨_,rfl⟩
      rw[hu] at c1;rw[hv] at c2
      have HB:=(hb.set i ((u+v)%256)).congr (f':=fun j=>if j<i+1 then(f j+h j)%256 else 0) (fun j _=>by
       by_cases e:j=i
       · rw[if_pos e,if_pos (by omega),e,hu,hv]
       · rw[if_neg e]
         by_cases q:j<i
         · rw[if_pos q,if_pos (by omega)]
         · rw[if_neg q,if_neg (by omega)])
      have e8:(((u+v)%256:Nat):Int)=((u:Int)+(v:Int))%256:=by omega
      have HR1:=hid (r1.other (x:=⟨W.heap.size+1+1+1,i,none⟩) (show W.heap.size≠W.heap.size+1+1+1 by omega) (.int .u8 (((u+v)%256:Nat):Int)));have HR2:=hid (r2.other (x:=⟨W.heap.size+1+1+1,i,none⟩) (show W.heap.size+1≠W.heap.size+1+1+1 by omega) (.int .u8 (((u+v)%256:Nat):Int)));have HR3:=hid (r3.other (x:=⟨W.heap.size+1+1+1,i,none⟩) (show W.heap.size+1+1≠W.heap.size+1+1+1 by omega) (.int .u8 (((u+v)%256:Nat):Int)));have HR4:=hid (r4.other (x:=⟨W.heap.size+1+1+1,i,none⟩) (show W.heap.size+1+1+1+1≠W.heap.size+1+1+1 by omega) (.int .u8 (((u+v)%256:Nat):Int)));have HW:=hid (hw.setCell (p:=⟨W.heap.size+1+1+1,i,none⟩) (show W.heap.size≤W.heap.size+1+1+1 by omega) (.int .u8 (((u+v)%256:Nat):Int)));have HBB:=hid HB;rw[e8] at HR1 HR2 HR3 HR4 HW HBB;clear HB e8 hu hv r1 r2 r3 r4 hb hw;go_wp2_with fail
      go_region
      go_wp2_with fail;go_roundw
      case rel=>exact⟨i+1,by go_num,by omega,HR1.out.drew,HR2.out.drew,HR3.out.drew,HR4.out.drew,HBB.out.drew,HW.out.drew⟩
      case measure=>simp[intOf];omega
    · obtain rfl:i=n:=by omega
      have p3:=r4.at0;have q0:=r3.at0;have q1:=r3.at1;have g0:=r3.frozen 0;have g1:=r3.frozen 1;have HR:=hid (r3.put (.int .i64 ((x:Int)+(y:Int))) (.slice (some ⟨W.heap.size+1+1+1,0,none⟩) i i));have HB:=hid (((hb.other (a:=⟨W.heap.size+1+1,0,none⟩) (show W.heap.size+1+1+1≠W.heap.size+1+1 by omega) (.int .i64 ((x:Int)+(y:Int)))).other (a:=⟨W.heap.size+1+1,1,none⟩) (show W.heap.size+1+1+1≠W.heap.size+1+1 by omega) (.slice (some ⟨W.heap.size+1+1+1,0,none⟩) i i)).congr (f':=fun j=>(f j+h j)%256) (fun j hj=>by rw[if_pos hj]));have HW:=hid ((hw.setCell (p:=⟨W.heap.size+1+1,0,none⟩) (show W.heap.size≤W.heap.size+1+1 by omega) (.int .i64 ((x:Int)+(y:Int)))).setCell (p:=⟨W.heap.size+1+1,1,none⟩) (show W.heap.size≤W.heap.size+1+1 by omega) (.slice (some ⟨W.heap.size+1+1+1,0,none⟩) i i));clear r1 r2 r3 r4 hb hw;go_wp2_with fail;refine bodyPost_ret (v:=.agg #[.int .i64 ((x:Int)+(y:Int)),.slice (some ⟨W.heap.size+1+1+1,0,none⟩) i i]) (results_cell_row rfl _ _ (W.heap.size+1+1) _ _ _ _ rfl HR.out.row Tryz.underlying171 rfl thing2Size) rfl ⟨_,by rw[hxy],by omega,HB.out,HW.out⟩
 · go_loopw [6] (fun v wr=> ∃i:Nat,v=.int .i64 i∧i≤n∧R2 wr W.heap.size (.int .i64 x) (.slice (some ⟨ga,0,none⟩) n n)∧R2 wr (W.heap.size+1) (.int .i64 y) (.slice (some ⟨gb,0,none⟩) n n)∧R2 wr (W.heap.size+1+1) (.int .i64 0) (.slice none 0 0)
    ∧R2 wr (W.heap.size+1+1+1) (.int .i64 ((x:Int)+(y:Int))) (.slice (some ⟨W.heap.size+1+1+1+1,0,none⟩) n n)∧Br wr (W.heap.size+1+1+1+1) n (fun j=>if j<i then(f j+h j)%256 else 0)∧Below W.heap.size W wr) (fun v _=>n - (intOf v).toNat)
   case atStart=>
    refine⟨0,rfl,Nat.zero_le _,?_,?_,?_,?_,?_,?_⟩
    · exact((((R2.new W _ _).alloc _).alloc _).alloc _).alloc _
    · have q:=R2.new (W.alloc (.cells #[.int .i64 x,.slice (some ⟨ga,0,none⟩) n n] 171)) (.int .i64 y) (.slice (some ⟨gb,0,none⟩) n n)
      rw[show(W.alloc (.cells #[.int .i64 x,.slice (some ⟨ga,0,none⟩) n n] 171)).heap.size=W.heap.size+1 by simp] at q;exact((q.alloc _).alloc _).alloc _
    · have q:=R2.new ((W.alloc (.cells #[.int .i64 x,.slice (some ⟨ga,0,none⟩) n n] 171)).alloc (.cells #[.int .i64 y,.slice (some ⟨gb,0,none⟩) n n] 171)) (.int .i64 0) (.slice none 0 0)
      rw[show((W.alloc (.cells #[.int .i64 x,.slice (some ⟨ga,0,none⟩) n n] 171)).alloc (.cells #[.int .i64 y,.slice (some ⟨gb,0,none⟩) n n] 171)).heap.size=W.heap.size+1+1 by simp] at q;exact(q.alloc _).alloc _
    · have q:=R2.new (((W.alloc (.cells #[.int .i64 x,.slice (some ⟨ga,0,none⟩) n n] 171)).alloc (.cells #[.int .i64 y,.slice (some ⟨gb,0,none⟩) n n] 171)).alloc (.cells #[.int .i64 0,.slice none 0 0] 171)) (.int .i64 ((x:Int)+(y:Int))) (.slice (some ⟨W.heap.size+1+1+1+1,0,none⟩) n n)
      rw[show(((W.alloc (.cells #[.int .i64 x,.slice (some ⟨ga,0,none⟩) n n] 171)).alloc (.cells #[.int .i64 y,.slice (some ⟨gb,0,none⟩) n n] 171)).alloc (.cells #[.int .i64 0,.slice none 0 0] 171)).heap.size=W.heap.size+1+1+1 by simp] at q;exact q.alloc _
    · have q:=Br.made' ((((W.alloc (.cells #[.int .i64 x,.slice (some ⟨ga,0,none⟩) n n] 171)).alloc (.cells #[.int .i64 y,.slice (some ⟨gb,0,none⟩) n n] 171)).alloc (.cells #[.int .i64 0,.slice none 0 0] 171)).alloc (.cells #[.int .i64 ((x:Int)+(y:Int)),.slice (some ⟨W.heap.size+1+1+1+1,0,none⟩) n n] 171)) n
      rw[show((((W.alloc (.cells #[.int .i64 x,.slice (some ⟨ga,0,none⟩) n n] 171)).alloc (.cells #[.int .i64 y,.slice (some ⟨gb,0,none⟩) n n] 171)).alloc (.cells #[.int .i64 0,.slice none 0 0] 171)).alloc (.cells #[.int .i64 ((x:Int)+(y:Int)),.slice (some ⟨W.heap.size+1+1+1+1,0,none⟩) n n] 171)).heap.size=W.heap.size+1+1+1+1 by simp] at q;exact q.congr (fun i _=>by rw[if_neg (by omega)])
    · exact(((((Below.refl _ _).alloc (Nat.le_refl _) _).alloc (by simp) _).alloc (by simp;omega) _).alloc (by simp;omega) _).alloc (by simp;omega) _|>.drew
   case round=>
    obtain⟨i,rfl,hi,r1,r2,r3,r4,hb,hw⟩:=hrel;have p0:=r1.at1;have p1:=r2.at1;have p2:=r4.at1;by_cases hlt:i<n
    · have c1:=(B1.out.below hw B1.out.lt).cell hlt
      have c2:=(B2.out.below hw B2.out.lt).cell hlt;have c3:=hb.cell hlt;have f3:=hb.frozen i;obtain⟨u,hu⟩:∃u,f i=u:=⟨_,rfl⟩
      obtain⟨v,hv⟩:∃v,h i=v:=⟨_,rfl⟩
      rw[hu] at c1;rw[hv] at c2
      have HB:=(hb.set i ((u+v)%256)).congr (f':=fun j=>if j<i+1 then(f j+h j)%256 else 0) (fun j _=>by
       by_cases e:j=i
       · rw[if_pos e,if_pos (by omega),e,hu,hv]
       · rw[if_neg e]
         by_cases q:j<i
         · rw[if_pos q,if_pos (by omega)]
         · rw[if_neg q,if_neg (by omega)])
      have e8:(((u+v)%256:Nat):Int)=((u:Int)+(v:Int))%256:=by omega
      have HR1:=hid (r1.other (x:=⟨W.heap.size+1+1+1+1,i,none⟩) (show W.heap.size≠W.heap.size+1+1+1+1 by omega) (.int .u8 (((u+v)%256:Nat):Int)));have HR2:=hid (r2.other (x:=⟨W.heap.size+1+1+1+1,i,none⟩) (show W.heap.size+1≠W.heap.size+1+1+1+1 by omega) (.int .u8 (((u+v)%256:Nat):Int)));have HR3:=hid (r3.other (x:=⟨W.heap.size+1+1+1+1,i,none⟩) (show W.heap.size+1+1≠W.heap.size+1+1+1+1 by omega) (.int .u8 (((u+v)%256:Nat):Int)));have HR4:=hid (r4.other (x:=⟨W.heap.size+1+1+1+1,i,none⟩) (show W.heap.size+1+1+1≠W.heap.size+1+1+1+1 by omega) (.int .u8 (((u+v)%256:Nat):Int)));have HW:=hid (hw.setCell (p:=⟨W.heap.size+1+1+1+1,i,none⟩) (show W.heap.size≤W.heap.size+1+1+1+1 by omega) (.int .u8 (((u+v)%256:Nat):Int)));have HBB:=hid HB;rw[e8] at HR1 HR2 HR3 HR4 HW HBB;clear HB e8 hu hv r1 r2 r3 r4 hb hw;go_wp2_with fail
      go_region
      go_wp2_with fail;go_roundw
      case rel=>exact⟨i+1,by go_num,by omega,HR1.out.drew,HR2.out.drew,HR3.out.drew,HR4.out.drew,HBB.out.drew,HW.out.drew⟩
      case measure=>simp[intOf];omega
    · obtain rfl:i=n:=by omega
      have p3:=r4.at0;have q0:=r3.at0;have q1:=r3.at1;have g0:=r3.frozen 0;have g1:=r3.frozen 1;have HR:=hid (r3.put (.int .i64 ((x:Int)+(y:Int))) (.slice (some ⟨W.heap.size+1+1+1+1,0,none⟩) i i));have HB:=hid (((hb.other (a:=⟨W.heap.size+1+1,0,none⟩) (show W.heap.size+1+1+1+1≠W.heap.size+1+1 by omega) (.int .i64 ((x:Int)+(y:Int)))).other (a:=⟨W.heap.size+1+1,1,none⟩) (show W.heap.size+1+1+1+1≠W.heap.size+1+1 by omega) (.slice (some ⟨W.heap.size+1+1+1+1,0,none⟩) i i)).congr (f':=fun j=>(f j+h j)%256) (fun j hj=>by rw[if_pos hj]));have HW:=hid ((hw.setCell (p:=⟨W.heap.size+1+1,0,none⟩) (show W.heap.size≤W.heap.size+1+1 by omega) (.int .i64 ((x:Int)+(y:Int)))).setCell (p:=⟨W.heap.size+1+1,1,none⟩) (show W.heap.size≤W.heap.size+1+1 by omega) (.slice (some ⟨W.heap.size+1+1+1+1,0,none⟩) i i));clear r1 r2 r3 r4 hb hw;go_wp2_with fail;refine bodyPost_ret (v:=.agg #[.int .i64 ((x:Int)+(y:Int)),.slice (some ⟨W.heap.size+1+1+1+1,0,none⟩) i i]) (results_cell_row rfl _ _ (W.heap.size+1+1) _ _ _ _ rfl HR.out.row Tryz.underlying171 rfl thing2Size) rfl ⟨_,by rw[hxy],by omega,HB.out,HW.out⟩
end Go.Proofs.YtdpabanajgegjaaGreatDoor
namespace Go.Proofs.YtdpabanajgegjaaGreatDoor.C
open Go.RowKit M
def Crow(w:World)(b n:Nat)(F G:Nat→Nat):Prop:=
 ∃c:Array Value,w.heap[b]? =some (.cells c 125 (0,0))∧c.size=n*2∧∀i,i<n→c[i*2]? =some (.int .u32 (F i))∧c[i*2+1]? =some (.int .u8 (G i))
section
variable {w w':World} {b n:Nat} {F G F' G':Nat→Nat}
theorem Crow.lt(h:Crow w b n F G):b<w.heap.size:=by
 obtain⟨c,hb,_⟩:=h;rcases Nat.lt_or_ge b w.heap.size with g|g
 · exact g
 · rw[Array.getElem?_eq_none g] at hb;cases hb
theorem Crow.cell1(h:Crow w b n F G){i:Nat}(hi:i<n):w.cell? ⟨b,i*2,none⟩=some (.int .u32 (F i)):=by
 obtain⟨c,hb,_,hc⟩:=h;rw[cell_of_row w b _ c _ _ hb];exact(hc i hi).1
theorem Crow.cell2(h:Crow w b n F G){i:Nat}(hi:i<n):w.cell? ⟨b,i*2+1,none⟩=some (.int .u8 (G i)):=by
 obtain⟨c,hb,_,hc⟩:=h;rw[cell_of_row w b _ c _ _ hb];exact(hc i hi).2
theorem Crow.frozen(h:Crow w b n F G)(i:Nat):w.frozen? ⟨b,i,none⟩=false:=by
 obtain⟨c,hb,_⟩:=h;simp[World.frozen?,hb]
theorem Crow.congr(h:Crow w b n F G)(e1:∀i,i<n→F i=F' i)(e2:∀i,i<n→G i=G' i):Crow w b n F' G':=by
 obtain⟨c,hb,hs,hc⟩:=h;exact⟨c,hb,hs,fun i hi=>by rw[(hc i hi).1,(hc i hi).2,e1 i hi,e2 i hi];exact⟨rfl,rfl⟩⟩
theorem Crow.other(h:Crow w b n F G){a:Addr}(ha:b≠a.block)(v:Value):Crow (w.setCell a v) b n F G:=by
 obtain⟨c,hb,hs,hc⟩:=h;exact⟨c,(Below.heap_setCell w a v b ha).trans hb,hs,hc⟩
theorem Crow.alloc(h:Crow w b n F G)(o:Obj):Crow (w.alloc o) b n F G:=by
 obtain⟨c,hb,hs,hc⟩:=id h;exact⟨c,(Below.heap_alloc w o b h.lt).trans hb,hs,hc⟩
theorem Crow.below(h:Crow w b n F G){B:Nat}(hb:Below B w w')(hB:b<B):Crow w' b n F G:=by
 obtain⟨c,h1,hs,hc⟩:=h;exact⟨c,(hb.block b hB).trans h1,hs,hc⟩
theorem Crow.set(h:Crow w b n F G)(i x y:Nat):Crow ((w.setCell ⟨b,i*2,none⟩ (.int .u32 x)).setCell ⟨b,i*2+1,none⟩ (.int .u8 y)) b n (fun j=>if j=i then x else F j) (fun j=>if j=i then y else G j):=by
 obtain⟨c,hb,hs,hc⟩:=h;refine⟨(c.setIfInBounds (i*2) (.int .u32 x)).setIfInBounds (i*2+1) (.int .u8 y),?_,by simp[hs],fun j hj=> ?_⟩
 · simp[World.setCell,Array.getElem?_modify,hb]
 · obtain⟨h1,h2⟩:=hc j hj
   by_cases e:j=i
   · subst e
     have l1:j*2<c.size:=by omega
     have l2:j*2+1<c.size:=by omega
     constructor
     · rw[Array.getElem?_setIfInBounds,if_neg (by omega),Array.getElem?_setIfInBounds,if_pos rfl,if_pos l1];simp
     · rw[Array.getElem?_setIfInBounds,if_pos rfl,if_pos (by simpa using l2)];simp
   · constructor
     · rw[Array.getElem?_setIfInBounds,if_neg (by omega),Array.getElem?_setIfInBounds,if_neg (by omega),h1];simp[e]
     · rw[Array.getElem?_setIfInBounds,if_neg (by omega),Array.getElem?_setIfInBounds,if_neg (by omega),h2];simp[e]
theorem Crow.cods(h:Crow w b n F G):Cods w (some ⟨b,0,none⟩) n F G:=fun hn=>
 ⟨b,0,rfl,h.lt,fun i hi=>by rw[Nat.zero_add];exact⟨h.cell1 hi,h.cell2 hi⟩⟩
end
theorem codeInfo:(Tryz.prog.info? 125).map (fun i=>(i.zero,i.size,i.bytes))=some (some (.agg #[.int .u32 0,.int .u8 0]),2,8):=by kernel_rfl
theorem byteInfo:(Tryz.prog.info? 5).map (fun i=>(i.zero,i.size,i.bytes))=some (some (.int .u8 0),1,1):=by kernel_rfl
theorem run_make_known(w:World){t e:TypeId}{z:Value}{size bytes:Nat}(ht: Tryz.prog.underlying t=some (.slice e))(hi:(Tryz.prog.info? e).map (fun i=>(i.zero,i.size,i.bytes))=some (some z,size,bytes))(hb:bytes≤8)(n:Nat)(hn:n≤400):
 (Instr.makeSlice t (.int .i64 (n:Int)) (.int .i64 (n:Int))).run Tryz.prog w=.ok (.slice (some ⟨w.heap.size,0,none⟩) n n) (w.alloc (.cells (madeCells z.cells (n*size)) e)):=by
 obtain⟨i,h1,h2,h3,h4⟩:∃i,Tryz.prog.info? e=some i∧i.zero=some z∧i.size=size∧i.bytes=bytes:=by
  cases hq: Tryz.prog.info? e with
  |none=>rw[hq] at hi;cases hi
  |some i=>rw[hq] at hi;simp at hi;exact⟨i,rfl,hi.1,hi.2.1,hi.2.2⟩
 subst h3 h4
 have hb':(i.bytes:Int)*(n:Int)≤281474976710656:=by
  have h:i.bytes*n≤8*400:=Nat.mul_le_mul hb hn;have h':((i.bytes*n:Nat):Int)≤281474976710656:=by omega
  rwa [Int.natCast_mul] at h'
 have hr:=run_make (P:= Tryz.prog) w t e i z ht h1 h2 .i64 .i64 n n (by omega) (Int.le_refl _) hb' (by omega);simp only[Int.toNat_natCast] at hr;exact hr
theorem madeCode(w:World)(n:Nat)(hn:n≤400):
 (Instr.makeSlice 116 (.int .i64 (n:Int)) (.int .i64 (n:Int))).run Tryz.prog w=.ok (.slice (some ⟨w.heap.size,0,none⟩) n n) (w.alloc (.cells (madeCells #[.int .u32 0,.int .u8 0] (n*2)) 125)):=
 run_make_known w Tryz.underlying116 codeInfo (by decide) n hn
theorem madeByte(w:World)(n:Nat)(hn:n≤400):
 (Instr.makeSlice 23 (.int .i64 (n:Int)) (.int .i64 (n:Int))).run Tryz.prog w=.ok (.slice (some ⟨w.heap.size,0,none⟩) n n) (w.alloc (.cells (madeCells #[.int .u8 0] (n*1)) 5)):=
 run_make_known w Tryz.underlying23 byteInfo (by decide) n hn
theorem Crow.made(w:World)(n:Nat):Crow (w.alloc (.cells (madeCells #[.int .u32 0,.int .u8 0] (n*2)) 125)) w.heap.size n (fun _=>0) (fun _=>0):=by
 refine⟨_,heap_alloc_new w _,size_madeCells _ _,fun i hi=> ?_⟩;have h1:i*2<n*2:=by omega
 have h2:i*2+1<n*2:=by omega
 have m1:i*2%2=0:=by omega
 have m2:(i*2+1)%2=1:=by omega
 constructor
 · simp[madeCells,h1,m1]
 · simp[madeCells,h2,m2]
end Go.Proofs.YtdpabanajgegjaaGreatDoor.C
namespace Go.Proofs.YtdpabanajgegjaaGreatDoor.C
open Go.Lib (hid)
open Go.RowKit M
def GotC(W:World)(n:Nat)(f g:Nat→Nat)(err:Int)(e:Ending)(w':World):Prop:=
 ∃A c,e=.returned (.tuple #[.slice A n c,.int .i64 err])∧n≤c∧c≤400∧Cods w' A n f g∧Below W.heap.size W w'∧(0<n→∃b,A=some ⟨b,0,none⟩∧W.heap.size≤b∧Crow w' b n f g)
theorem codes_bad_any(A:Option Addr)(n c:Nat)(l:Nat→Nat)(W:World)(hn:n≤maxLen)(hl:∀i,l i≤255)(H:Nums W .u8 A n (fun i=>(l i:Int)))(f g:Nat→Nat)(hk:kind l n=5):
 Calls Tryz.prog 228 #[.slice A n c] W (GotC W 0 f g 2):=by
 have hv:=hid hk;have HL:=hid hl;clear hk hl;go_enter Tryz.func228,Tryz.ntmps228;go_wp2_with fail;refine(kind_any A n c l _ hn HL.out H).mono ?_;rintro e w1 ⟨rfl,b1⟩;rw[hv.out];have B1:=hid b1;clear b1;go_wp2_with fail;go_ret2;exact⟨none,0,rfl,Nat.le_refl _,by omega,Cods.nil _ _ _ _,B1.out,fun h=>absurd h (by omega)⟩
theorem codes_over_any(A:Option Addr)(n c:Nat)(l:Nat→Nat)(W:World)(hn:n≤maxLen)(hl:∀i,l i≤255)(H:Nums W .u8 A n (fun i=>(l i:Int)))(f g:Nat→Nat)(hk:kind l n=4):
 Calls Tryz.prog 228 #[.slice A n c] W (GotC W 0 f g 7):=by
 have hv:=hid hk;have HL:=hid hl;clear hk hl;go_enter Tryz.func228,Tryz.ntmps228;go_wp2_with fail;refine(kind_any A n c l _ hn HL.out H).mono ?_;rintro e w1 ⟨rfl,b1⟩;rw[hv.out];have B1:=hid b1;clear b1;go_wp2_with fail;go_ret2;exact⟨none,0,rfl,Nat.le_refl _,by omega,Cods.nil _ _ _ _,B1.out,fun h=>absurd h (by omega)⟩
set_option maxRecDepth 1000000 in
set_option maxHeartbeats 1000000 in
theorem codes_ok_any(A:Option Addr)(n c:Nat)(l:Nat→Nat)(W:World)(hl:∀i,l i≤255)(H:Nums W .u8 A n (fun i=>(l i:Int)))(hm:May l n)(hw:weight l n≤32768)(K:Nat)(hk:kind l n=K)(k5:K≠5)(k4:K≠4):
 Calls Tryz.prog 228 #[.slice A n c] W (GotC W n (cod l n) l 0):=by
 have hz:=arrZero;have h320:=hm.1;have hv:=hid hk;have HL:=hid hl;have HM:=hid hm;have HW:=hid hw;have HN:=hid (show n≤maxLen by unfold maxLen;omega);have HC:=hid (show ∀s,s<16→c0 l n s≤320 from fun s _=>Nat.le_trans (c0_le l n s) hm.1);have d5:((K:Int)==5)=false:=by rw[beq_eq_false_iff_ne];omega
 have d4:((K:Int)==4)=false:=by rw[beq_eq_false_iff_ne];omega
 have HH:=hid H;clear hk hl hm hw k5 k4 H;go_enter Tryz.func228,Tryz.ntmps228;go_wp2_with fail;refine(kind_any A n c l _ HN.out HL.out HH.out).mono ?_;rintro e w1 ⟨rfl,b1⟩;rw[hv.out];have B1:=hid b1;have H1:=hid (HH.out.below b1);clear b1;go_wp2_with fail;refine(count_any A n c l _ HM.out H1.out).mono ?_;rintro e w2 ⟨rfl,b2⟩;have B2:=hid (B1.out.trans (b2.mono B1.out.size));clear b2;go_wp2_with fail;refine(firsts_any (c0 l n) _ HC.out).mono ?_;rintro e w3 ⟨rfl,b3⟩;have B3:=hid (B2.out.trans (b3.mono B2.out.size));clear b3;have hmk:=fun w=>madeCode w n (by omega)
 go_wp2_with (refine step_store rfl _ _ rfl _ (fs (c0 l n)) rfl rfl ?_);clear hz hmk
 go_loopw [22] (fun i wr=> ∃k:Nat,k≤n∧i=.int .i64 k∧Tb wr w3.heap.size (fun s=>fs (c0 l n) s+c0 l k s)∧Crow wr (w3.heap.size+1) n (fun j=>if j<k then cod l n j else 0) (fun j=>if j<k then l j else 0)∧Below W.heap.size W wr) (fun i _=>n - (intOf i).toNat)
 case atStart=>
  refine⟨0,Nat.zero_le _,rfl,?_,?_,(B3.out.alloc B3.out.size _).alloc (by have:=B3.out.size;simp;omega) _⟩
  · exact((Tb.made w3 (fs (c0 l n))).alloc _).congr (fun i hi=>by unfold c0;simp[cnt])
  · have h:=Crow.made (w3.alloc (.cells (TV (fs (c0 l n))) 292)) n
    rw[show(w3.alloc (.cells (TV (fs (c0 l n))) 292)).heap.size=w3.heap.size+1 by simp] at h;exact h.congr (fun i hi=>by simp) (fun i hi=>by simp)
 case round=>
  obtain⟨k,hkn,rfl,ht,hr,hb⟩:=hrel;by_cases hlt:k<n
  · obtain⟨b,o,rfl,hbs,hc⟩:=HH.out (by omega)
    have h15:=HM.out.2 k hlt;have hcell:wr.cell? ⟨b,o+k,none⟩=some (.int .u8 (l k)):=(hb.cell hbs).trans (hc k hlt);have hf1:=hr.frozen (k*2);have hf2:=hr.frozen (k*2+1);have hr1:=hr.cell1 hlt;have hr2:=hr.cell2 hlt;have hfl:=fs_le (c:=c0 l n) h15 (by rw[aw_weight l n HM.out.2];exact HW.out);have hcm:=cnt_mono l (l k) (Nat.le_of_lt hlt);have hpw:2^l k≤2^15:=Nat.pow_le_pow_right (by omega) h15;by_cases h0:l k=0
    · have HT:=hid ht
      have HR:=hid hr;have HB:=hid hb;have H0:=hid h0;rw[h0] at hcell;clear ht hr hb hc hfl hcm hpw h0 hr1 hr2 hf1 hf2;go_wp2_with fail;go_roundw
      case rel=>
       refine⟨k+1,by omega,by go_num,HT.out.congr (fun i hi=> ?_),HR.out.congr (fun i hi=> ?_) (fun i hi=> ?_),HB.out⟩
       · unfold c0
         by_cases e:i=0
         · rw[if_pos e,if_pos e]
         · rw[if_neg e,if_neg e]
           simp only[cnt];rw[if_neg (by rw[H0.out];exact fun q=>e q.symm)];rfl
       · by_cases e:i<k
         · rw[if_pos e,if_pos (by omega)]
         · rw[if_neg e]
           by_cases e2:i<k+1
           · obtain rfl:i=k:=by omega
             rw[if_pos e2];unfold cod;rw[if_pos H0.out]
           · rw[if_neg e2]
       · by_cases e:i<k
         · rw[if_pos e,if_pos (by omega)]
         · rw[if_neg e]
           by_cases e2:i<k+1
           · obtain rfl:i=k:=by omega
             rw[if_pos e2,H0.out]
           · rw[if_neg e2]
      case measure=>simp[intOf];omega
    · have hk1:(if k<k then cod l n k else 0)=0:=if_neg (Nat.lt_irrefl _)
      have hk2:(if k<k then l k else 0)=0:=if_neg (Nat.lt_irrefl _);rw[hk1] at hr1;rw[hk2] at hr2;have hfr:=ht.frozen (l k);have hcl:=ht.cell (show l k<16 by omega);have hcode:cod l n k=fs (c0 l n) (l k)+c0 l k (l k):=by unfold cod c0;rw[if_neg h0,if_neg h0]
      have e1:c0 l n (l k)=cnt l (l k) n:=by unfold c0;rw[if_neg h0]
      have e2:c0 l k (l k)=cnt l (l k) k:=by unfold c0;rw[if_neg h0]
      rw[←hcode] at hcl;have hcs:cod l n k≤32768:=by omega
      obtain⟨x,hx⟩:∃x,l k=x:=⟨_,rfl⟩
      obtain⟨y,hy⟩:∃y,cod l n k=y:=⟨_,rfl⟩
      have h0':((x:Int)==0)=false:=by rw[beq_eq_false_iff_ne];omega
      rw[hx] at hcell hcl hfr h15;rw[hy] at hcs hcl;have HT:=hid ht;have HR:=hid hr;have HB:=hid hb;have H0:=hid h0;have HX:=hid hx;have HY:=hid hy;have HCD:=hid hcode;have hne:¬w3.heap.size=w3.heap.size+1:=by omega
      clear ht hr hb hc hfl hcm hpw h0 hx hy hcode e1 e2 hk1 hk2;go_wp2_with fail;go_roundw
      case rel=>
       refine⟨k+1,by omega,by go_num,?_,?_,(((HB.out.setCell (by have:=B3.out.size;simp;omega) _).setCell (by have:=B3.out.size;simp;omega) _).setCell (by have:=B3.out.size;simp;omega) _)⟩
       · refine((((HT.out.other (by simp) _).other (by simp) _).set x (y+1))).congr (fun i hi=> ?_)
         have hck:∀j,c0 l (k+1) j=c0 l k j+if j=x then 1 else 0:=fun j=>by
          have hx:=HX.out;unfold c0;by_cases e:j=0
          · have e':¬j=x:=by have:=H0.out;omega
            rw[if_pos e,if_pos e,if_neg e']
          · rw[if_neg e,if_neg e]
            simp only[cnt];rw[hx];by_cases e':j=x
            · rw[if_pos e',if_pos e'.symm]
            · rw[if_neg e',if_neg (fun q=>e' q.symm)]
         rw[hck];by_cases e:i=x
         · rw[if_pos e,if_pos e,e]
           have h1:=HCD.out;rw[HX.out,HY.out] at h1;omega
         · rw[if_neg e,if_neg e];rfl
       · refine((HR.out.set k y x).other (by simp) _).congr (fun i hi=> ?_) (fun i hi=> ?_)
         · by_cases e:i=k
           · rw[if_pos e,if_pos (by omega),e,HY.out]
           · rw[if_neg e]
             by_cases e2:i<k
             · rw[if_pos e2,if_pos (by omega)]
             · rw[if_neg e2,if_neg (by omega)]
         · by_cases e:i=k
           · rw[if_pos e,if_pos (by omega),e,HX.out]
           · rw[if_neg e]
             by_cases e2:i<k
             · rw[if_pos e2,if_pos (by omega)]
             · rw[if_neg e2,if_neg (by omega)]
      case measure=>simp[intOf];omega
  · obtain rfl:k=n:=by omega
    have HR:=hid (hr.congr (F':=cod l k) (G':=l) (fun i hi=>by rw[if_pos hi]) (fun i hi=>by rw[if_pos hi]));have HB:=hid hb;clear ht hr hb;go_wp2_with fail;go_ret2;exact⟨_,_,rfl,Nat.le_refl _,by omega,HR.out.cods,HB.out,fun _=>⟨_,rfl,by have:=B3.out.size;omega,HR.out⟩⟩
theorem erc_of{l:Nat→Nat}{n:Nat}:(kind l n=5∧erc l n=2∧outn l n=0)∨(kind l n=4∧erc l n=7∧outn l n=0)∨(kind l n≠5∧kind l n≠4∧erc l n=0∧outn l n=n):=by
 by_cases h5:kind l n=5
 · exact .inl ⟨h5,by unfold erc;rw[if_pos h5],by unfold outn erc;rw[if_pos h5];rfl⟩
 · by_cases h4:kind l n=4
   · exact .inr (.inl ⟨h4,by unfold erc;rw[if_neg h5,if_pos h4],by unfold outn erc;rw[if_neg h5,if_pos h4];rfl⟩)
   · exact .inr (.inr ⟨h5,h4,by unfold erc;rw[if_neg h5,if_neg h4],by unfold outn erc;rw[if_neg h5,if_neg h4];rfl⟩)
theorem codes_any(A:Option Addr)(n c:Nat)(l:Nat→Nat)(W:World)(hn:n≤maxLen)(hl:∀i,l i≤255)(H:Nums W .u8 A n (fun i=>(l i:Int))):
 Calls Tryz.prog 228 #[.slice A n c] W (GotC W (outn l n) (cod l n) l (erc l n:Nat)):=by
 rcases erc_of (l:=l) (n:=n) with⟨h1,h2,h3⟩|⟨h1,h2,h3⟩|⟨h1,h1',h2,h3⟩
 · rw[h2,h3];exact codes_bad_any A n c l W hn hl H _ _ h1
 · rw[h2,h3];exact codes_over_any A n c l W hn hl H _ _ h1
 · rw[h2,h3]
   obtain⟨hm,hw⟩:=kind_fits h1 h1';exact codes_ok_any A n c l W hl H hm hw _ rfl h1 h1'
theorem pow_next(x j:Nat)(h:x≤j):2^(j+1 - x)=2*2^(j - x):=by rw[show j+1 - x=(j - x)+1 by omega,Nat.pow_succ];omega
theorem rkind_end{l:Nat→Nat}{n:Nat}(hm:May l n){g a z:Nat}(hg:weight l n=g)(ha:nz l n=a)(hz:lst l n=z):
 kind l n=if a=0 then 0 else if 32768<g then 4 else if g=32768 then 2 else if a=1∧z=1 then 1 else 3:=by
 rw[kind_ref hm,hg,ha,hz]
set_option maxRecDepth 1000000 in
set_option maxHeartbeats 1000000 in
theorem rkind_any(A:Option Addr)(n c:Nat)(l:Nat→Nat)(W:World)(hn:n≤maxLen)(hl:∀i,l i≤255)(H:Nums W .u8 A n (fun i=>(l i:Int))):
 Calls Tryz.prog 97 #[.slice A n c] W fun e w'=>e=.returned (.int .u8 (kind l n))∧W=w':=by
 have hn':n≤9223372036854775807:=by unfold maxLen at hn;omega
 have HL:=hid hl;have HH:=hid H;clear H hn hl;by_cases h320:n≤320
 · go_enter Tryz.func97,Tryz.ntmps97
   go_wp2
   go_loop [3,4,5,6] (fun g a z i=> ∃k:Nat,k≤n∧i=.int .i64 k∧g=.int .i64 (weight l k)∧a=.int .i64 (nz l k)∧z=.int .u8 (lst l k)∧Hid (∀j,j<k→l j≤15)) (fun _ _ _ i=>n - (intOf i).toNat)
   case atStart=>exact⟨0,Nat.zero_le _,rfl,rfl,rfl,rfl,hid (fun j hj=>by omega)⟩
   case round=>
    obtain⟨k,hkn,rfl,rfl,rfl,rfl,hsm⟩:=hrel;have w1:=weight_le l k;have w2:=nz_le l k;have w3:=lst_le k hsm.out;obtain⟨g,hg⟩:∃g,weight l k=g:=⟨_,rfl⟩
    obtain⟨a,ha⟩:∃a,nz l k=a:=⟨_,rfl⟩
    obtain⟨z,hz⟩:∃z,lst l k=z:=⟨_,rfl⟩
    rw[hg] at w1 ⊢;rw[ha] at w2 ⊢;rw[hz] at w3 ⊢;have HG:=hid hg;have HA:=hid ha;have HZ:=hid hz;clear hg ha hz;by_cases hlt:k<n
    · obtain⟨b,o,rfl,hb,hc⟩:=HH.out (by omega)
      have hcell:W.cell? ⟨b,o+k,none⟩=some (.int .u8 (l k)):=hc k hlt;have h255:=HL.out k;obtain⟨x,hx⟩:∃x,l k=x:=⟨_,rfl⟩
      rw[hx] at hcell h255;have HX:=hid hx;clear hc hx;by_cases h15:x≤15
      · by_cases h0:x=0
        · have hx0:((x:Int)==0)=true:=by rw[beq_iff_eq];omega
          have H0:=hid h0;clear h0;go_wp2
          go_round
          case rel=>
           have e0:l k=0:=HX.out.trans H0.out;refine⟨k+1,by omega,by go_num,?_,?_,?_,hid (fun j hj=> ?_)⟩
           · simp only[weight];rw[HG.out,e0];rfl
           · simp only[nz];rw[HA.out,if_pos e0];rfl
           · simp only[lst];rw[HZ.out,if_pos e0]
           · by_cases e:j=k
             · rw[e,e0];omega
             · exact hsm.out j (by omega)
          case measure=>simp[intOf];omega
        · have hx0:((x:Int)==0)=false:=by rw[beq_eq_false_iff_ne];omega
          have H0:=hid h0;clear h0;go_wp2
          go_loop [7,8] (fun w j=> ∃m:Nat,x≤m∧m≤15∧j=.int .i64 m∧w=.int .i64 ((2^(m - x):Nat):Int)) (fun _ j=>15 - (intOf j).toNat)
          case atStart=>exact⟨x,Nat.le_refl _,h15,rfl,by rw[Nat.sub_self];rfl⟩
          case round=>
           obtain⟨m,hxm,hm15,rfl,rfl⟩:=hrel;have hpw:2^(m - x)≤2^15:=Nat.pow_le_pow_right (by omega) (by omega);have hpn:=hid (pow_next x m hxm);obtain⟨v,hv⟩:∃v,2^(m - x)=v:=⟨_,rfl⟩
           rw[hv] at hpw ⊢;have HV:=hid hv;clear hv;by_cases hlm:m<15
           · go_wp2
             go_round
             case rel=>exact⟨m+1,by omega,by omega,by go_num,congrArg (Value.int .i64) (by rw[hpn.out,HV.out];omega)⟩
             case measure=>simp[intOf];omega
           · obtain rfl:m=15:=by omega
             go_wp2
             go_round
             case rel=>
              have e0:¬l k=0:=fun q=>H0.out (HX.out▸q)
              refine⟨k+1,by omega,by go_num,?_,?_,?_,hid (fun j hj=> ?_)⟩
              · simp only[weight];rw[HG.out];unfold wt;rw[if_neg e0,HX.out,HV.out];go_num
              · simp only[nz];rw[HA.out,if_neg e0];go_num
              · simp only[lst];rw[if_neg e0,HX.out]
              · by_cases e:j=k
                · rw[e,HX.out];exact h15
                · exact hsm.out j (by omega)
             case measure=>simp[intOf];omega
      · have hv:=hid (kind_bad (l:=l) (n:=n) (fun q=>h15 (by rw[←HX.out];exact q.2 k hlt)))
        go_wp2;go_ret;exact⟨by rw[hv.out];rfl,rfl⟩
    · obtain rfl:k=n:=by omega
      have hk:=rkind_end ⟨h320,hsm.out⟩ HG.out HA.out HZ.out;by_cases e0:a=0
      · rw[if_pos e0] at hk
        have d0:((a:Int)==0)=true:=by rw[beq_iff_eq];omega
        have HK:=hid hk;clear hk e0;go_wp2;go_ret;exact⟨by rw[HK.out];rfl,rfl⟩
      rw[if_neg e0] at hk;by_cases e1:32768<g
      · rw[if_pos e1] at hk
        have d0:((a:Int)==0)=false:=by rw[beq_eq_false_iff_ne];omega
        have d1:decide (32768<(g:Int))=true:=decide_eq_true (by omega);have HK:=hid hk;clear hk e0;go_wp2;go_ret;exact⟨by rw[HK.out];rfl,rfl⟩
      rw[if_neg e1] at hk;by_cases e2:g=32768
      · rw[if_pos e2] at hk
        have d0:((a:Int)==0)=false:=by rw[beq_eq_false_iff_ne];omega
        have d1:decide (32768<(g:Int))=false:=decide_eq_false (by omega);have d2:((g:Int)==32768)=true:=by rw[beq_iff_eq];omega
        have HK:=hid hk;clear hk e0 e2;go_wp2;go_ret;exact⟨by rw[HK.out];rfl,rfl⟩
      rw[if_neg e2] at hk;by_cases e3:a=1
      · by_cases e4:z=1
        · rw[if_pos ⟨e3,e4⟩] at hk
          have d0:((a:Int)==0)=false:=by rw[beq_eq_false_iff_ne];omega
          have d1:decide (32768<(g:Int))=false:=decide_eq_false (by omega);have d2:((g:Int)==32768)=false:=by rw[beq_eq_false_iff_ne];omega
          have d3:((a:Int)==1)=true:=by rw[beq_iff_eq];omega
          have d4:((z:Int)==1)=true:=by rw[beq_iff_eq];omega
          have HK:=hid hk;clear hk e0 e2 e3 e4;go_wp2;go_ret;exact⟨by rw[HK.out];rfl,rfl⟩
        · rw[if_neg (fun q=>e4 q.2)] at hk
          have d0:((a:Int)==0)=false:=by rw[beq_eq_false_iff_ne];omega
          have d1:decide (32768<(g:Int))=false:=decide_eq_false (by omega);have d2:((g:Int)==32768)=false:=by rw[beq_eq_false_iff_ne];omega
          have d3:((a:Int)==1)=true:=by rw[beq_iff_eq];omega
          have d4:((z:Int)==1)=false:=by rw[beq_eq_false_iff_ne];omega
          have HK:=hid hk;clear hk e0 e2 e3 e4;go_wp2;go_ret;exact⟨by rw[HK.out];rfl,rfl⟩
      · rw[if_neg (fun q=>e3 q.1)] at hk
        have d0:((a:Int)==0)=false:=by rw[beq_eq_false_iff_ne];omega
        have d1:decide (32768<(g:Int))=false:=decide_eq_false (by omega);have d2:((g:Int)==32768)=false:=by rw[beq_eq_false_iff_ne];omega
        have d3:((a:Int)==1)=false:=by rw[beq_eq_false_iff_ne];omega
        have HK:=hid hk;clear hk e0 e2 e3;go_wp2;go_ret;exact⟨by rw[HK.out];rfl,rfl⟩
 · have hv:=hid (kind_bad (l:=l) (n:=n) (fun q=>h320 q.1))
   go_enter Tryz.func97,Tryz.ntmps97;go_wp2;go_ret;exact⟨by rw[hv.out];rfl,rfl⟩
theorem rcodes_bad_any(A:Option Addr)(n c:Nat)(l:Nat→Nat)(W:World)(hn:n≤maxLen)(hl:∀i,l i≤255)(H:Nums W .u8 A n (fun i=>(l i:Int)))(f g:Nat→Nat)(hk:kind l n=5):
 Calls Tryz.prog 61 #[.slice A n c] W (GotC W 0 f g 2):=by
 have hv:=hid hk;have HL:=hid hl;clear hk hl;go_enter Tryz.func61,Tryz.ntmps61;go_wp2_with fail;refine(rkind_any A n c l _ hn HL.out H).mono ?_;rintro e w1 ⟨rfl,rfl⟩;rw[hv.out];go_wp2_with fail;go_ret2;exact⟨none,0,rfl,Nat.le_refl _,by omega,Cods.nil _ _ _ _,Below.refl _ _,fun h=>absurd h (by omega)⟩
theorem rcodes_over_any(A:Option Addr)(n c:Nat)(l:Nat→Nat)(W:World)(hn:n≤maxLen)(hl:∀i,l i≤255)(H:Nums W .u8 A n (fun i=>(l i:Int)))(f g:Nat→Nat)(hk:kind l n=4):
 Calls Tryz.prog 61 #[.slice A n c] W (GotC W 0 f g 7):=by
 have hv:=hid hk;have HL:=hid hl;clear hk hl;go_enter Tryz.func61,Tryz.ntmps61;go_wp2_with fail;refine(rkind_any A n c l _ hn HL.out H).mono ?_;rintro e w1 ⟨rfl,rfl⟩;rw[hv.out];go_wp2_with fail;go_ret2;exact⟨none,0,rfl,Nat.le_refl _,by omega,Cods.nil _ _ _ _,Below.refl _ _,fun h=>absurd h (by omega)⟩
def dn(l:Nat→Nat)(m k i:Nat):Prop:=l i≠0∧(l i<m∨l i=m∧i<k)
instance (l:Nat→Nat) (m k i:Nat):Decidable (dn l m k i):=inferInstanceAs (Decidable (l i≠0∧(l i<m∨l i=m∧i<k)))
def Fd(l:Nat→Nat)(n m k i:Nat):Nat:=if dn l m k i then cod l n i else 0
def Gd(l:Nat→Nat)(m k i:Nat):Nat:=if dn l m k i then l i else 0
def RN(l:Nat→Nat)(n m k x sz:Nat)(b:Bool):Prop:=
 ∃nx,nx*2^(m - sz)=fs (c0 l n) m+cnt l m k∧sz≤m∧((b=true∧x=nx∧nx=0)∨(b=false∧nx=x+1))
theorem RN.next{l:Nat→Nat}{n m x sz:Nat}{b:Bool}(h:RN l n m n x sz b)(h1:1≤m):RN l n (m+1) 0 x sz b:=by
 obtain⟨nx,e,hs,hb⟩:=h;refine⟨nx,?_,by omega,hb⟩;rw[show m+1 - sz=(m - sz)+1 by omega,Nat.pow_succ,←Nat.mul_assoc,e];have:c0 l n m=cnt l m n:=by unfold c0;rw[if_neg (by omega)]
 simp only[fs,cnt];rw[this];omega
theorem RN.skip{l:Nat→Nat}{n m k x sz:Nat}{b:Bool}(h:RN l n m k x sz b)(hk:l k≠m):RN l n m (k+1) x sz b:=by
 obtain⟨nx,e,hs,hb⟩:=h;refine⟨nx,?_,hs,hb⟩;simp only[cnt];rw[if_neg hk];exact e
theorem RN.told{l:Nat→Nat}{n m k y:Nat}(hy:y=fs (c0 l n) m+cnt l m k)(hk:l k=m):RN l n m (k+1) y m false:=by
 refine⟨y+1,?_,Nat.le_refl _,.inr ⟨rfl,rfl⟩⟩;simp only[cnt];rw[if_pos hk,Nat.sub_self,Nat.pow_zero,Nat.mul_one,hy];omega
theorem RN.start(l:Nat→Nat)(n:Nat):RN l n 1 0 0 0 true:=⟨0,by simp[fs,c0,cnt],by omega,.inl ⟨rfl,rfl,rfl⟩⟩
theorem dn_next{l:Nat→Nat}{n m i:Nat}(hi:i<n):dn l (m+1) 0 i↔dn l m n i:=by unfold dn;omega
theorem dn_skip{l:Nat→Nat}{m k i:Nat}(hk:l k≠m):dn l m (k+1) i↔dn l m k i:=by
 unfold dn;constructor
 · rintro⟨a,b⟩
   refine⟨a,?_⟩;rcases b with b|⟨b,c⟩
   · exact .inl b
   · refine .inr ⟨b,?_⟩
     by_cases e:i=k
     · subst e;exact absurd b hk
     · omega
 · rintro⟨a,b⟩;exact⟨a,by omega⟩
theorem dn_told{l:Nat→Nat}{m k i:Nat}(hk:l k=m)(h0:m≠0):dn l m (k+1) i↔(i=k∨dn l m k i):=by
 unfold dn;constructor
 · rintro⟨a,b⟩
   by_cases e:i=k
   · exact .inl e
   · exact .inr ⟨a,by omega⟩
 · rintro(rfl|⟨a,b⟩)
   · exact⟨by omega,.inr ⟨hk,by omega⟩⟩
   · exact⟨a,by omega⟩
theorem dn_end{l:Nat→Nat}{i:Nat}(h:l i≤15):dn l 16 0 i↔l i≠0:=by unfold dn;omega
theorem dn_start(l:Nat→Nat)(i:Nat):¬dn l 1 0 i:=by unfold dn;omega
set_option maxRecDepth 1000000 in
set_option maxHeartbeats 1000000 in
theorem rcodes_ok_any(A:Option Addr)(n c:Nat)(l:Nat→Nat)(W:World)(hl:∀i,l i≤255)(H:Nums W .u8 A n (fun i=>(l i:Int)))(hm:May l n)(hw:weight l n≤32768)(K:Nat)(hk:kind l n=K)(k5:K≠5)(k4:K≠4):
 Calls Tryz.prog 61 #[.slice A n c] W (GotC W n (cod l n) l 0):=by
 have h320:=hm.1;have hv:=hid hk;have HL:=hid hl;have HM:=hid hm;have HW:=hid hw;have HN:=hid (show n≤maxLen by unfold maxLen;omega);have d5:((K:Int)==5)=false:=by rw[beq_eq_false_iff_ne];omega
 have d4:((K:Int)==4)=false:=by rw[beq_eq_false_iff_ne];omega
 have HH:=hid H;clear hk hl hm hw k5 k4 H;go_enter Tryz.func61,Tryz.ntmps61;go_wp2_with fail;refine(rkind_any A n c l _ HN.out HL.out HH.out).mono ?_;rintro e w1 ⟨rfl,rfl⟩;rw[hv.out];have hmk:=fun w=>madeCode w n (by omega)
 go_wp2_with fail;clear hmk
 go_loopw [5,6,7,8] (fun x s b i wr=> ∃m X S:Nat,∃B:Bool,1≤m∧m≤16∧i=.int .i64 m∧x=.int .u32 X∧s=.int .i64 S∧b=.bool B∧RN l n m 0 X S B∧Crow wr W.heap.size n (Fd l n m 0) (Gd l m 0)∧Below W.heap.size W wr) (fun _ _ _ i _=>16 - (intOf i).toNat)
 case atStart=>
  refine⟨1,0,0,true,Nat.le_refl _,by omega,rfl,rfl,rfl,rfl,RN.start l n,?_,(Below.refl _ _).alloc (Nat.le_refl _) _⟩;exact(Crow.made W n).congr (fun i hi=>by unfold Fd;rw[if_neg (dn_start l i)]) (fun i hi=>by unfold Gd;rw[if_neg (dn_start l i)])
 case round=>
  obtain⟨m,X,S,B,hm1,hm16,rfl,rfl,rfl,rfl,hrn,hr,hb⟩:=hrel;have HR:=hid hr;have HB:=hid hb;have HRN:=hid hrn;clear hr hb hrn;by_cases hm15:m≤15
  · go_wp2_with fail
    go_loopw [5,6,7,9] (fun x s b i wr=> ∃k X S:Nat,∃B:Bool,k≤n∧i=.int .i64 k∧x=.int .u32 X∧s=.int .i64 S∧b=.bool B∧RN l n m k X S B∧Crow wr W.heap.size n (Fd l n m k) (Gd l m k)∧Below W.heap.size W wr) (fun _ _ _ i _=>n - (intOf i).toNat)
    case atStart=>exact⟨0,X,S,B,Nat.zero_le _,rfl,rfl,rfl,rfl,HRN.out,HR.out,HB.out⟩
    case round=>
     clear HR HB HRN;obtain⟨k,X,S,B,hkn,rfl,rfl,rfl,rfl,hrn,hr,hb⟩:=hrel;by_cases hlt:k<n
     · obtain⟨b,o,rfl,hbs,hc⟩:=HH.out (by omega)
       have hcell:wr.cell? ⟨b,o+k,none⟩=some (.int .u8 (l k)):=(hb.cell hbs).trans (hc k hlt);have h15:=HM.out.2 k hlt;obtain⟨x,hx⟩:∃x,l k=x:=⟨_,rfl⟩
       rw[hx] at hcell h15;have HX:=hid hx;clear hc hx;by_cases hxm:x=m
       · have hsm:((x:Int) !=(m:Int))=false:=by rw[bne_eq_false_iff_eq];omega
         have hf1:=hr.frozen (k*2);have hf2:=hr.frozen (k*2+1);have hr1:=hr.cell1 hlt;have hr2:=hr.cell2 hlt;obtain⟨q1,hq1⟩:∃q,Fd l n m k k=q:=⟨_,rfl⟩
         obtain⟨q2,hq2⟩:∃q,Gd l m k k=q:=⟨_,rfl⟩
         rw[hq1] at hr1;rw[hq2] at hr2;have hrf:=ref_next HM.out HW.out hm1 hm15 hkn;have hpm:2^m≤2^15:=Nat.pow_le_pow_right (by omega) hm15;have hcd:cod l n k=fs (c0 l n) m+cnt l m k:=by unfold cod;rw[HX.out,if_neg (by omega),hxm]
         obtain⟨nx,e,hs,hbb⟩:=hrn;obtain⟨V,hV⟩:∃V,fs (c0 l n) m+cnt l m k=V:=⟨_,rfl⟩
         rw[hV] at hrf hcd e
         have hle:nx≤V:=by
          rw[←e];exact Nat.le_mul_of_pos_right _ (Nat.two_pow_pos _)
         have hV32:V≤32768:=by omega
         have HR:=hid hr;have HB:=hid hb;have HV:=hid hV;have HXM:=hid hxm;have HCD:=hid hcd;have HE:=hid e;clear hr hb hV hxm hcd e hrf hpm hq1 hq2;rcases hbb with⟨rfl,rfl,h0⟩|⟨rfl,rfl⟩
         case' inl=>clear h0
         all_goals (
          go_wp2_with fail
          go_loop [5,6] (fun y j=> ∃J Y:Nat,S≤J∧J≤m∧j=.int .i64 J∧y=.int .u32 Y∧Hid (Y*2^(m - J)=V)) (fun _ j=>m - (intOf j).toNat)
          case atStart=>exact⟨S,_,Nat.le_refl _,hs,rfl,by first|rfl|go_num,HE⟩
          case round=>
           obtain⟨J,Y,hSJ,hJm,rfl,rfl,hY⟩:=hrel
           have hYle:Y≤V:=by
            rw[←hY.out];exact Nat.le_mul_of_pos_right _ (Nat.two_pow_pos _)
           by_cases hJ:J<m
           · have hnext:2*Y*2^(m - (J+1))=V:=by
              have:=hY.out;rw[show m - J=(m - (J+1))+1 by omega,Nat.pow_succ] at this;rw[←this,Nat.mul_comm 2 Y,Nat.mul_assoc,Nat.mul_comm 2]
             have hY2:2*Y≤V:=by
              rw[←hnext];exact Nat.le_mul_of_pos_right _ (Nat.two_pow_pos _)
             have HN2:=hid hnext;clear hnext;go_wp2_with fail
             go_round
             case rel=>exact⟨J+1,2*Y,by omega,by omega,by go_num,by go_num,HN2⟩
             case measure=>simp[intOf];omega
           · obtain rfl:J=m:=by omega
             have hYV:Y=V:=by
              have:=hY.out
              rwa [Nat.sub_self,Nat.pow_zero,Nat.mul_one] at this
             subst hYV;go_wp2_with fail;go_roundw
             case rel=>
              refine⟨k+1,Y,J,false,by omega,by go_num,rfl,rfl,rfl,RN.told HV.out.symm (HX.out.trans HXM.out),?_,(HB.out.setCell (by simp) _).setCell (by simp) _⟩;refine(HR.out.set k Y x).congr (fun i hi=> ?_) (fun i hi=> ?_)
              · have hd:=dn_told (i:=i) (HX.out.trans HXM.out) (by omega)
                unfold Fd;by_cases e:i=k
                · rw[if_pos e,if_pos (hd.2 (.inl e)),e,HCD.out]
                · rw[if_neg e]
                  by_cases e2:dn l J k i
                  · rw[if_pos e2,if_pos (hd.2 (.inr e2))]
                  · rw[if_neg e2,if_neg (fun q=>by rcases hd.1 q with q|q;exact e q;exact e2 q)]
              · have hd:=dn_told (i:=i) (HX.out.trans HXM.out) (by omega)
                unfold Gd;by_cases e:i=k
                · rw[if_pos e,if_pos (hd.2 (.inl e)),e,HX.out]
                · rw[if_neg e]
                  by_cases e2:dn l J k i
                  · rw[if_pos e2,if_pos (hd.2 (.inr e2))]
                  · rw[if_neg e2,if_neg (fun q=>by rcases hd.1 q with q|q;exact e q;exact e2 q)]
             case measure=>simp[intOf];omega)
       · have hsm:((x:Int) !=(m:Int))=true:=by rw[bne_iff_ne];omega
         have HR:=hid hr;have HB:=hid hb;have HRN:=hid hrn;have HXM:=hid hxm;clear hr hb hrn hxm;go_wp2_with fail;go_roundw
         case rel=>
          have hne:l k≠m:=by rw[HX.out];exact HXM.out
          refine⟨k+1,X,S,B,by omega,by go_num,rfl,rfl,rfl,HRN.out.skip hne,HR.out.congr (fun i hi=> ?_) (fun i hi=> ?_),HB.out⟩
          · unfold Fd;simp only[dn_skip hne]
          · unfold Gd;simp only[dn_skip hne]
         case measure=>simp[intOf];omega
     · obtain rfl:k=n:=by omega
       have HR:=hid hr;have HB:=hid hb;have HRN:=hid hrn;clear hr hb hrn;go_wp2_with fail;go_roundw
       case rel=>
        refine⟨m+1,X,S,B,by omega,by omega,by go_num,rfl,rfl,rfl,HRN.out.next hm1,HR.out.congr (fun i hi=> ?_) (fun i hi=> ?_),HB.out⟩
        · unfold Fd;simp only[dn_next hi]
        · unfold Gd;simp only[dn_next hi]
       case measure=>simp[intOf];omega
  · obtain rfl:m=16:=by omega
    have HR2:=hid (HR.out.congr (F':=cod l n) (G':=l) (fun i hi=>by
     unfold Fd;by_cases e:l i=0
     · rw[if_neg (fun q=>q.1 e)];unfold cod;rw[if_pos e]
     · rw[if_pos ((dn_end (HM.out.2 i hi)).2 e)]) (fun i hi=>by
     unfold Gd;by_cases e:l i=0
     · rw[if_neg (fun q=>q.1 e),e]
     · rw[if_pos ((dn_end (HM.out.2 i hi)).2 e)]))
    go_wp2_with fail;go_ret2;exact⟨_,_,rfl,Nat.le_refl _,by omega,HR2.out.cods,HB.out,fun _=>⟨_,rfl,Nat.le_refl _,HR2.out⟩⟩
theorem rcodes_any(A:Option Addr)(n c:Nat)(l:Nat→Nat)(W:World)(hn:n≤maxLen)(hl:∀i,l i≤255)(H:Nums W .u8 A n (fun i=>(l i:Int))):
 Calls Tryz.prog 61 #[.slice A n c] W (GotC W (outn l n) (cod l n) l (erc l n:Nat)):=by
 rcases erc_of (l:=l) (n:=n) with⟨h1,h2,h3⟩|⟨h1,h2,h3⟩|⟨h1,h1',h2,h3⟩
 · rw[h2,h3];exact rcodes_bad_any A n c l W hn hl H _ _ h1
 · rw[h2,h3];exact rcodes_over_any A n c l W hn hl H _ _ h1
 · rw[h2,h3]
   obtain⟨hm,hw⟩:=kind_fits h1 h1';exact rcodes_ok_any A n c l W hl H hm hw _ rfl h1 h1'
end Go.Proofs.YtdpabanajgegjaaGreatDoor.C
