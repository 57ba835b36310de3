import Derived.Test.YtdpabanajgegjaaGreatDoorEMRns
import Derived.Test.YtdpabanajgegjaaGreatDoorEBwG
import Derived.Laws.CopyOwn
import Derived.Laws.MakeOwn
import Derived.Laws.OwnMore
import Derived.Lib.AppendZeros
import Derived.Deep.RegionLaw
import Derived.RegionTactic
import Derived.BigRegion
namespace Go.Proofs.YtdpabanajgegjaaGreatDoor.V
open Go.Lib (hid)
open Go Go.RowKit M U
set_option linter.unusedVariables false
set_option linter.unusedSimpArgs false
set_option maxRecDepth 1000000 in
theorem mul64_one(N:Nat)(w:World)(hN:N≤400):Calls Tryz.prog 253 #[.int .u64 1,.int .u64 N] w fun e w'=>e=.returned (.tuple #[.int .u64 0,.int .u64 N])∧w=w':=by
 have a1:bits .and .u64 (N:Int) 4294967295=(N:Int):=by
  have h:=bits_and_u64_nat N 4294967295 (by omega) (by omega);rw[show N&&&4294967295=N from(Nat.and_two_pow_sub_one_eq_mod N 32).trans (Nat.mod_eq_of_lt (by omega))] at h;exact h
 have a2:(N:Int) /4294967296=0:=by omega
 have a3:bits .and .u64 (1:Int) 4294967295=1:=by decide+kernel
 have a4:bits .and .u64 (0:Int) 4294967295=0:=by decide+kernel
 have a5:IntKind.u64.wrap (N:Int)=(N:Int):=by rw[IntKind.wrap_u64];omega
 have a6:(1:Int)*(N:Int)=(N:Int):=by omega
 go_enter Tryz.func253,Tryz.ntmps253;go_wp2;exact bodyPost_ret (v:=.tuple #[.int .u64 0,.int .u64 N]) (by simp[results,Tryz.results253,go_sem]) rfl ⟨rfl,rfl⟩
set_option maxRecDepth 1000000 in
theorem mul_one(N:Nat)(w:World)(hN:N≤400):Calls Tryz.prog 233 #[.int .u64 1,.int .u64 N] w fun e w'=>e=.returned (.tuple #[.int .u64 0,.int .u64 N])∧w=w':=by
 have HM:=hid (fun w=>mul64_one N w hN);go_enter Tryz.func233,Tryz.ntmps233;go_wp2_with (go_at_call 253;(with_reducible refine(HM.out _).mono ?_);rintro e w1 ⟨rfl,rfl⟩);exact bodyPost_ret (v:=.tuple #[.int .u64 0,.int .u64 N]) (by simp[results,Tryz.results233,go_sem]) rfl ⟨rfl,rfl⟩
def rpl(x k N:Nat):List Value:=List.replicate k (.int .u8 (x:Int))++List.replicate (N - k) (.int .u8 0)
theorem rpl_length{x k N:Nat}(h:k≤N):(rpl x k N).length=N:=by unfold rpl;simp;omega
theorem rpl_zero(x N:Nat):rpl x 0 N=List.replicate N (.int .u8 0):=by unfold rpl;simp
theorem rpl_at{x k N i:Nat}(h:i<k):(rpl x k N)[i]? =some (.int .u8 (x:Int)):=by
 unfold rpl;rw[List.getElem?_append_left (by simpa using h),List.getElem?_replicate,if_pos h]
theorem rpl_splice(x:Nat){k m N:Nat}(h:k+m≤N):splice (rpl x k N) k (List.replicate m (.int .u8 (x:Int)))=rpl x (k+m) N:=by
 unfold splice rpl;rw[List.take_append_of_le_length (by simp),List.take_of_length_le (by simp),List.drop_append,List.drop_of_length_le (by simp),List.nil_append,←List.append_assoc,List.replicate_append_replicate];simp;omega
def Rpt(w:World)(x N:Nat)(e:Ending)(w':World):Prop:=∃g,e=.returned (.slice (some ⟨g,0,none⟩) N N)∧w.heap.size≤g∧Br w' g N (fun _=>x)∧Below w.heap.size w w'
theorem byteSz:(Tryz.prog.info? 5).map (·.size)=some 1:=by kernel_rfl
set_option maxRecDepth 1000000 in
set_option maxHeartbeats 2000000 in
theorem repeat_any(b x N:Nat)(w:World)(h1:1≤N)(hN:N≤400)(hc:w.cell? ⟨b,0,none⟩=some (.int .u8 (x:Nat))):
 Calls Tryz.prog 200 #[.slice (some ⟨b,0,none⟩) 1 1,.int .i64 N] w (Rpt w x N):=by
 have hbl:=World.block_lt_of_cell? _ _ hc;have HM:=hid (fun w=>mul_one N w hN);have hmk:=fun w=>madeByte w N hN
 have hml:madeCells #[.int .u8 0] N=(rpl x 0 N).toArray:=by
  rw[rpl_zero,←toList_madeCells_one]
 have HC:=hid hc;unfold Rpt;clear hc
 obtain⟨w2,hg2,hb2,hcp⟩:∃w2,w2.heap[w.heap.size]? =some (.cells (rpl x 1 N).toArray 5 (0,0))∧Below w.heap.size w w2∧
  (Builtin.copy_ #[23,23] 3 #[.slice (some ⟨w.heap.size,0,none⟩) N N,.slice (some ⟨b,0,none⟩) 1 1]).run Tryz.prog (w.alloc (.cells (rpl x 0 N).toArray 5))=.ok (.int .i64 1) w2:=by
  have hr:=run_copy_row (P:= Tryz.prog) (w.alloc (.cells (rpl x 0 N).toArray 5)) 23 23 3 5 w.heap.size 0 N N ⟨b,0,none⟩ 1 1 _ 5 [.int .u8 (x:Int)] Tryz.underlying23 byteSz (heap_alloc_new _ _)
   (show 1=min 1 N by omega) (fun j v hv=>(by match j,hv with
    |0,hv=>simp at hv;subst hv;exact(Below.cell ((Below.refl w.heap.size w).alloc (Nat.le_refl _) _) hbl).trans HC.out
    |j+1,hv=>simp at hv)) (by rw[List.size_toArray,rpl_length (Nat.zero_le _)];simp;omega) (by simp[Value.oneCell'])
  refine⟨_,?_,?_,hr⟩
  · rw[setRow_heap _ _ _ _ _ _ (heap_alloc_new _ _)]
    congr 3;exact rpl_splice x (k:=0) (m:=1) (by omega)
  · exact _root_.Go.below_setRow ((Below.refl _ _).alloc (Nat.le_refl _) _) (Nat.le_refl _) _
 have HG2:=hid hg2;have HB2:=hid hb2;clear hg2 hb2;go_enter Tryz.func200,Tryz.ntmps200;go_wp2_with (go_at_call 233;(with_reducible refine(HM.out _).mono ?_);rintro e w1 ⟨rfl,rfl⟩);clear hml hmk hcp
 go_loopw [8] (fun i wr=> ∃k:Nat,1≤k∧k≤N∧i=.int .i64 k∧wr.heap[w.heap.size]? =some (.cells (rpl x k N).toArray 5 (0,0))∧Below w.heap.size w wr) (fun i _=>N - (intOf i).toNat)
 case atStart=>exact⟨1,Nat.le_refl _,h1,rfl,HG2.out,HB2.out⟩
 case round=>
  obtain⟨k,hk1,hk2,rfl,hg,hb⟩:=hrel;by_cases hlt:k<N
  · have d1:decide ((k:Int)<(N:Int))=true:=decide_eq_true (by omega)
    have d1':decide (k<N)=true:=decide_eq_true hlt;obtain⟨m,hm⟩:∃m,min k (N - k)=m:=⟨_,rfl⟩
    have hkm:k+m≤N:=by omega
    have hm1:1≤m:=by omega
    obtain⟨w4,hg4,hb4,hcp⟩:∃w4,w4.heap[w.heap.size]? =some (.cells (rpl x (k+m) N).toArray 5 (0,0))∧Below w.heap.size w w4∧
     (Builtin.copy_ #[23,23] 3 #[.slice (some ⟨w.heap.size,k,none⟩) (N - k) (N - k),.slice (some ⟨w.heap.size,0,none⟩) k N]).run Tryz.prog wr.drew=.ok (.int .i64 m) w4:=by
     have hg':wr.drew.heap[w.heap.size]? =some (.cells (rpl x k N).toArray 5 (0,0)):=hg
     have hr:=run_copy_row (P:= Tryz.prog) wr.drew 23 23 3 5 w.heap.size k (N - k) (N - k) ⟨w.heap.size,0,none⟩ k N _ 5 (List.replicate m (.int .u8 (x:Int))) Tryz.underlying23 byteSz hg'
      (show(List.replicate m (Value.int .u8 (x:Int))).length=min k (N - k) by rw[List.length_replicate];exact hm.symm) (fun j v hv=>by
       have hj:j<m:=by have:=(List.getElem?_eq_some_iff.1 hv).1;simpa using this
       rw[List.getElem?_replicate,if_pos hj] at hv;rw[nadd_at,Nat.zero_add,cell_of_row _ _ j _ _ (0,0) hg',List.getElem?_toArray,rpl_at (by omega),←hv]) (by rw[List.size_toArray,rpl_length hk2,List.length_replicate];exact hkm) (fun v hv=>by rw[List.eq_of_mem_replicate hv];rfl)
     rw[List.length_replicate] at hr;refine⟨_,?_,?_,hr⟩
     · rw[setRow_heap _ _ _ _ _ _ hg']
       congr 3;rw[←rpl_splice x hkm];simp[splice]
     · exact _root_.Go.below_setRow (hb.trans (Below.refl _ _).drew) (Nat.le_refl _) _
    have HG4:=hid hg4;have HB4:=hid hb4;have e1:¬(N=k):=by omega
    have e2:wrap64 ((k:Int)+(m:Int))=((k+m:Nat):Int):=by rw[IntWalk.wrap64_in _ ⟨by omega,by omega⟩];omega
    clear hg hb hg4 hb4 hm;go_wp2_with fail
    go_region
    all_goals
     go_wp2;go_roundw
     case rel=>exact⟨k+m,by omega,hkm,by go_num,HG4.out,HB4.out⟩
     case measure=>(simp[intOf];try omega)
  · obtain rfl:k=N:=by omega
    have d1:decide ((k:Int)<(k:Int))=false:=decide_eq_false (by omega);have d1':decide (k<k)=false:=decide_eq_false (by omega);have HG:=hid hg;have HB:=hid hb;clear hg hb;go_wp2;go_ret;refine⟨_,rfl,Nat.le_refl _,⟨_,HG.out,?_,fun i hi=> ?_⟩,HB.out⟩
    · rw[List.size_toArray,rpl_length (Nat.le_refl _)]
    · rw[List.getElem?_toArray,rpl_at hi]
theorem wpList_bys{ops:Array Oper}{rest:List Oper}{o:Oper}{a:Act}{w:World}{Q:Exit→Act→World→Prop}(hgd:o.guard=none)(s x:Operand)
 (ho:o.op=.call {callee:=.builtin .append,args:= #[s,x],argTypes:= #[23,23]}) (B:Nat) (v:Value) (l:List Nat) (hs:a.eval s=v) (h:Owb B w v l) (A:Option Addr) (n c:Nat) (r:List Nat)
 (hx:a.eval x=.slice A n c) (hr:IsBys w A n r) (hn:0<n) (hL:l.length+r.length≤3000000) (hB:B≤w.heap.size)
 (hK:∀v' w',Owb B w' v' (l++r)→Below B w w'→wpList Tryz.prog ops Q rest (a.put o.dst v') w'):wpList Tryz.prog ops Q (o::rest) a w:=
 wpList_plain hgd fun K hK'=>by
  obtain⟨i,h1,h2,h3,h4⟩:=info_of byteInfo;obtain⟨b,q,rfl,hb,hc⟩:=hr.at hn;have hl:=hr.leng
  obtain⟨v',w',r1,r2,r3,_⟩:=run_append_own (P:= Tryz.prog) w B 23 o.type 5 i _ 1 1 Tryz.underlying23 h1 h2 h3 h4 rfl (by decide) v l.length (clb l) h ⟨b,q,none⟩ n c (clb r) (by rw[clb_length];omega)
   (fun j u hu=>by
    rw[nadd_at];have hj:j<n:=by have:=(List.getElem?_eq_some_iff.1 hu).1;rw[clb_length] at this;omega
    rw[hc j hj];unfold clb at hu;rw[List.getElem?_map,List.getElem?_eq_getElem (by omega)] at hu;rw[List.getD,List.getElem?_eq_getElem (by omega)];exact hu) (by intro u hu;unfold clb at hu;obtain⟨y,_,rfl⟩:=List.mem_map.1 hu;rfl) (by unfold maxLen;omega) (by omega) hB
  unfold Oper.wp execOp;simp only[ho,resolve,invoke,builtin,Sem.run_bind,Sem.run_pure,Result.andThen_ok,List.map_toArray,List.map_cons,List.map_nil,hs,hx,r1];refine hK' _ _ (hK v' w' ?_ ((Below.refl _ w).grown r3 hB (fun k hk=>(World.ownsRow.lt h k hk).1)));unfold Owb;rw[List.length_append,clb_append,hl];exact r2
set_option maxRecDepth 1000000 in
set_option maxHeartbeats 1000000 in
theorem grow_any(n:Nat)(w:World)(h0:0<n)(hn:n≤2000):
 Calls Tryz.prog 199 #[.slice none 0 0,.int .i64 n] w fun e w'=> ∃v,e=.returned v∧Owb w.heap.size w' v []∧Below w.heap.size w w':=by
 obtain⟨i,h1,h2,h3,h4⟩:=info_of byteInfo;have hr:=fun ty=>Lib.run_append_nil_zeros (P:= Tryz.prog) w 23 3 ty 5 i _ .i64 .i64 Tryz.underlying23 (by kernel_rfl) h1 h2 n h0 (by omega) (by omega) (by rw[h4];omega)
 have hG:=grownCap_ge w n 0 5;have hG2:=grownCap_le_maxLen w n 0 5 (by unfold maxLen;omega);obtain⟨G,hGe⟩:∃G,grownCap w n 0 5 =G:=⟨_,rfl⟩
 rw[hGe] at hr hG hG2
 have hsz:(Builtin.zeroCells (Value.int .u8 0).cells n++Builtin.zeroCells (Value.int .u8 0).cells (G - n)).size=G*1:=by
  rw[Array.size_append,size_zeroCells,size_zeroCells];show n*1+(G - n)*1=G*1
  omega
 obtain⟨cs,hcs⟩:∃cs,Builtin.zeroCells (Value.int .u8 0).cells n++Builtin.zeroCells (Value.int .u8 0).cells (G - n)=cs:=⟨_,rfl⟩
 rw[hcs] at hr hsz;have hown:=World.ownsRow_made (base:=w.heap.size) (e:= 5) (size:=1) w.drew cs G (Nat.le_refl _) hG2 hsz;have HO:=hid hown;have d1:decide (0<(n:Int))=true:=decide_eq_true (by omega);have d1':decide (0<n)=true:=decide_eq_true h0;have e1:¬(G=0):=by omega
 have hG63:G≤9223372036854775807:=by unfold maxLen at hG2;omega
 clear hown hGe hG2 hcs hsz h1 h2 h3 h4;go_enter Tryz.func199,Tryz.ntmps199;go_wp2_with (at_builtin;refine Lib.wpList_append_run _ rfl _ _ _ _ rfl _ _ rfl rfl _ _ (hr _) ?_);go_ret;exact⟨_,rfl,HO.out,(Below.refl _ _).drew.alloc (Nat.le_refl _) _⟩
structure Prt where
 A:Option Addr
 n:Nat
 c:Nat
 l:List Nat
instance:Inhabited Prt:=⟨⟨none,0,0,[]⟩⟩
def flt(Ps:List Prt):List Nat:=Ps.flatMap (·.l)
theorem flt_snoc{Ps:List Prt}{k:Nat}(hk:k<Ps.length):flt (Ps.take (k+1))=flt (Ps.take k)++(Ps.getD k default).l:=by
 unfold flt;rw[List.take_add_one,List.flatMap_append,List.getD,List.getElem?_eq_getElem hk];simp
theorem flt_le(Ps:List Prt)(k:Nat):(flt (Ps.take k)).length≤(flt Ps).length:=by
 unfold flt
 conv=>rhs;rw[←List.take_append_drop k Ps,List.flatMap_append,List.length_append]
 omega
theorem owb_cap{B:Nat}{w:World}{v:Value}{l:List Nat}(h:Owb B w v l){A:Option Addr}{n c:Nat}(hv:v=.slice A n c):l.length≤c:=by
 rcases h.2 with⟨e,h0⟩|⟨g,cap,cur,e,_,_,hnc,_⟩
 · rw[h0];exact Nat.zero_le _
 · rw[hv] at e
   simp only[Value.slice.injEq] at e;omega
def Cct(w:World)(l:List Nat)(e:Ending)(w':World):Prop:=∃A c,e=.returned (.slice A l.length c)∧l.length≤c∧(∀b o,A=some ⟨b,o,none⟩→w.heap.size≤b)∧IsBys w' A l.length l∧Below w.heap.size w w'
set_option maxRecDepth 1000000 in
set_option maxHeartbeats 2000000 in
theorem concat_any(z m:Nat)(Ps:List Prt)(w:World)(hm:Ps.length=m)(hm2:m≤100)(hz:z<w.heap.size)(hc:∀i,i<m→w.cell? ⟨z,i,none⟩=some (.slice (Ps.getD i default).A (Ps.getD i default).n (Ps.getD i default).c))
 (hp:∀i,i<m→IsBys w (Ps.getD i default).A (Ps.getD i default).n (Ps.getD i default).l∧0<(Ps.getD i default).n) (h0:0<(flt Ps).length) (ht:(flt Ps).length≤2000):
 Calls Tryz.prog 162 #[.slice (some ⟨z,0,none⟩) m m] w (Cct w (flt Ps)):=by
 have HC:=hid hc;have HP:=hid hp;have HGr:=hid (fun w=>grow_any (flt Ps).length w h0 ht);have HLe:=hid (fun k=>flt_le Ps k)
 have HOk:=hid (show ∀x∈flt Ps,x≤255 from fun x hx=>by
  unfold flt at hx;obtain⟨p,hp1,hp2⟩:=List.mem_flatMap.1 hx;obtain⟨i,hi,rfl⟩:=List.getElem_of_mem hp1;have:=(hp i (by omega)).1.good;rw[List.getD,List.getElem?_eq_getElem hi] at this;exact this x hp2)
 obtain⟨T,hT⟩:∃T,(flt Ps).length=T:=⟨_,rfl⟩
 rw[hT] at HGr h0 ht;have HTe:=hid hT;unfold Cct;clear hc hp hT;go_enter Tryz.func162,Tryz.ntmps162;go_wp2
 go_loopw [3,11] (fun s i wr=> ∃k t:Nat,k≤m∧s=.int .i64 t∧i=.int .i64 k∧t=(flt (Ps.take k)).length∧w=wr) (fun _ i _=>m - (intOf i).toNat)
 case atStart=>exact⟨0,0,Nat.zero_le _,rfl,rfl,rfl,rfl⟩
 case round=>
  obtain⟨k,t,hk,rfl,rfl,ht2,rfl⟩:=hrel;by_cases hlt:k<m
  · have d1:decide ((k:Int)<(m:Int))=true:=decide_eq_true (by omega)
    have d1':decide (k<m)=true:=decide_eq_true hlt;have c0:=HC.out k hlt;have pl:=(HP.out k hlt).1.leng;have pn:=(HP.out k hlt).2;have hs:=flt_snoc (Ps:=Ps) (k:=k) (by omega);have hle:=HLe.out (k+1);rw[HTe.out] at hle;have hs2:=congrArg List.length hs;rw[List.length_append,pl,←ht2] at hs2;obtain⟨A,hA⟩:∃A,(Ps.getD k default).A=A:=⟨_,rfl⟩
    obtain⟨n,hn⟩:∃n,(Ps.getD k default).n=n:=⟨_,rfl⟩
    obtain⟨c,hcc⟩:∃c,(Ps.getD k default).c=c:=⟨_,rfl⟩
    rw[hA,hn,hcc] at c0;rw[hn] at hs2;have HS:=hid hs2;have b1:t+n≤2000:=by omega
    have d2:decide (((t+n:Nat):Int)<0)=false:=decide_eq_false (by omega);have e2:wrap64 ((t:Int)+(n:Int))=((t+n:Nat):Int):=by rw[IntWalk.wrap64_in _ ⟨by omega,by omega⟩];omega
    have k2:k≤100:=by omega
    clear hs hs2 ht2 hA hn hcc pl pn hle;go_wp2;go_roundw
    case rel=>exact⟨k+1,t+n,by omega,by go_num,by go_num,HS.out.symm,trivial⟩
    case measure=>(simp[intOf];try omega)
  · obtain rfl:k=m:=by omega
    have d1:decide ((k:Int)<(k:Int))=false:=decide_eq_false (by omega);have d1':decide (k<k)=false:=decide_eq_false (by omega);have htT:t=T:=by rw[←HTe.out,ht2,List.take_of_length_le (by omega)]
    subst htT;clear ht2;go_wp2_with (go_at_call 199;(with_reducible refine(HGr.out _).mono ?_);rintro e w1 ⟨v,rfl,o1,b1⟩;have O1:=hid o1;have B1:=hid b1;clear o1 b1)
    go_loopw [6,27] (fun v i wr=> ∃j:Nat,j≤k∧i=.int .i64 j∧Owb w.heap.size wr v (flt (Ps.take j))∧Below w.heap.size w wr) (fun _ i _=>k - (intOf i).toNat)
    case atStart=>exact⟨0,Nat.zero_le _,rfl,O1.out,B1.out⟩
    case round=>
     obtain⟨j,hj,rfl,ho,hb⟩:=hrel;by_cases hlt2:j<k
     · have d2:decide ((j:Int)<(k:Int))=true:=decide_eq_true (by omega)
       have d2':decide (j<k)=true:=decide_eq_true hlt2;have c0:=(hb.cell (p:=⟨z,j,none⟩) hz).trans (HC.out j hlt2);have pn:=(HP.out j hlt2).2;have hi:=(HP.out j hlt2).1.below hb;have hs:=flt_snoc (Ps:=Ps) (k:=j) (by omega);have hle:=HLe.out (j+1);rw[HTe.out,hs,List.length_append] at hle;obtain⟨A,hA⟩:∃A,(Ps.getD j default).A=A:=⟨_,rfl⟩
       obtain⟨n,hn⟩:∃n,(Ps.getD j default).n=n:=⟨_,rfl⟩
       obtain⟨c,hcc⟩:∃c,(Ps.getD j default).c=c:=⟨_,rfl⟩
       obtain⟨l,hll⟩:∃l,(Ps.getD j default).l=l:=⟨_,rfl⟩
       rw[hA,hn,hcc] at c0;rw[hn] at pn;rw[hA,hn,hll] at hi;rw[hll] at hs hle;have HS:=hid hs;have HI:=hid hi;have HO:=hid ho;have HB:=hid hb;have HN:=hid pn;have HL:=hid (show(flt (Ps.take j)).length+l.length≤3000000 by omega);have k2:j≤100:=by omega
       clear hs hi ho hb hA hn hcc hll hle pn;go_wp2_with (at_builtin;refine wpList_bys rfl _ _ rfl w.heap.size _ (flt (Ps.take j)) rfl HO.out _ _ _ l rfl HI.out HN.out HL.out HB.out.size ?_;intro v2 w2 o2 b2;have O2:=hid o2;have B2:=hid b2;clear o2 b2);go_roundw
       case rel=>exact⟨j+1,by omega,by go_num,by rw[HS.out];exact O2.out,HB.out.trans B2.out⟩
       case measure=>(simp[intOf];try omega)
     · obtain rfl:j=k:=by omega
       have d2:decide ((j:Int)<(j:Int))=false:=decide_eq_false (by omega);have d2':decide (j<j)=false:=decide_eq_false (by omega);rw[List.take_of_length_le (by omega)] at ho;obtain⟨A,c,hv,hb2⟩:=ho.bys HOk.out (by rw[HTe.out];unfold maxLen;omega);have HNew:=hid (show ∀b o,A=some ⟨b,o,none⟩→w.heap.size≤b from fun b o e=>(ho.lt b (by rw[hv,e];rfl)).1);have HCap:=hid (owb_cap ho hv);have HV:=hid hv;have HI:=hid hb2;have HB:=hid hb;clear ho hv hb2 hb;go_wp2;go_ret;exact⟨A,c,by rw[HV.out];rfl,HCap.out,HNew.out,HI.out,HB.out⟩
end Go.Proofs.YtdpabanajgegjaaGreatDoor.V
