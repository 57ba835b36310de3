import Derived.Test.YthgilhebnlglkaaGreatDoorEMBwG
import Derived.Laws.CopyOwn
import Derived.Lib.AppendZeros
set_option linter.all false
set_option maxHeartbeats 8000000
set_option maxRecDepth 1000000
open Go.Proofs.Tryz
namespace Go.Proofs.YthgilhebnlglkaaGreatDoor.V
open Go Go.RowKit M U
theorem zb0(N:Nat)(w:World)(hN:N<=400):Calls prog 332 #[.int .u64 1,.int .u64 N] w λe w'=>e=.returned (.tuple #[.int .u64 0,.int .u64 N])/\w=w':=by
 have a1:bits .and .u64 (N:Int) 4294967295=(N:Int):=by
  have h:=bits_and_u64_nat N 4294967295 (by omega) (by omega);rw[show N&&&4294967295=N from(Nat.and_two_pow_sub_one_eq_mod N 32).trans (Nat.mod_eq_of_lt (by omega))] at h;exact h
 have a2:(N:Int) /4294967296=0:=(by omega);have a3:bits .and .u64 (1:Int) 4294967295=1:=(by decide+kernel);have a4:bits .and .u64 (0:Int) 4294967295=0:=(by decide+kernel);have a5:IntKind.u64.wrap (N:Int)=(N:Int):=(by rw[IntKind.wrap_u64];omega);have a6:(1:Int)*(N:Int)=(N:Int):=(by omega);go_enter func332,ntmps332;go_wp2;exact bodyPost_ret (v:=.tuple #[.int .u64 0,.int .u64 N]) (by simp[results,results332,go_sem]) rfl ⟨rfl,rfl⟩
theorem mul_one(N:Nat)(w:World)(hN:N<=400):Calls prog 312 #[.int .u64 1,.int .u64 N] w λe w'=>e=.returned (.tuple #[.int .u64 0,.int .u64 N])/\w=w':=by
 have HM:=qH (λw=>zb0 N w hN);go_enter func312,ntmps312;go_wp2_with (go_at_call 332;(with_reducible refine(HM.o _).mono ?_);rintro e w1 ⟨rfl,rfl⟩);exact bodyPost_ret (v:=.tuple #[.int .u64 0,.int .u64 N]) (by simp[results,results312,go_sem]) rfl ⟨rfl,rfl⟩
def rpl(x k N:Nat):List Value:=List.replicate k (.int .u8 (x:Int))++List.replicate (N - k) (.int .u8 0)
theorem z21{x k N:Nat}(h:k<=N):(rpl x k N).length=N:=by unfold rpl;simp;omega
theorem zd9(x N:Nat):rpl x 0 N=List.replicate N (.int .u8 0):=by unfold rpl;simp
theorem zfb{x k N i:Nat}(h:i<k):(rpl x k N)[i]? =some (.int .u8 (x:Int)):=by
 unfold rpl;rw[List.getElem?_append_left (by simpa using h),List.getElem?_replicate,if_pos h]
theorem z3Y(x:Nat){k m N:Nat}(h:k+m<=N):splice (rpl x k N) k (List.replicate m (.int .u8 (x:Int)))=rpl x (k+m) N:=by
 unfold splice rpl;rw[List.take_append_of_le_length (by simp),List.take_of_length_le (by simp),List.drop_append,List.drop_of_length_le (by simp),List.nil_append,<-qD,List.replicate_append_replicate];simp;omega
def Rpt(w:World)(x N:Nat)(e:Ending)(w':World):Prop:=∃g,e=.returned (.slice (some ⟨g,0,none⟩) N N)/\w.heap.size<=g/\Br w' g N (λ_=>x)/\Below w.heap.size w w'
theorem zfO:(prog.info? 5).map (·.size)=some 1:=by kernel_rfl
theorem z8I(b x N:Nat)(w:World)(h1:1<=N)(hN:N<=400)(hc:w.cell? ⟨b,0,none⟩=some (.int .u8 (x:Nat))):
 Calls prog 287 #[.slice (some ⟨b,0,none⟩) 1 1,.int .i64 N] w (Rpt w x N):=by
 have hbl:=qB hc;have HM:=qH (λw=>mul_one N w hN);have hmk:=λw=>madeByte w N hN
 have hml:madeCells #[.int .u8 0] N=(rpl x 0 N).toArray:=by
  rw[zd9,<-toList_madeCells_one]
 have HC:=qH hc;unfold Rpt;clear hc
 obtain⟨w2,hg2,hb2,hcp⟩:∃w2,w2.heap[w.heap.size]? =some (.cells (rpl x 1 N).toArray 5 (0,0))/\Below w.heap.size w w2/\
  (Builtin.copy_ #[26,26] 3 #[.slice (some ⟨w.heap.size,0,none⟩) N N,.slice (some ⟨b,0,none⟩) 1 1]).run prog (w.alloc (.cells (rpl x 0 N).toArray 5))=.ok (.int .i64 1) w2:=by
  have hr:=run_copy_row (P:= prog) (w.alloc (.cells (rpl x 0 N).toArray 5)) 26 26 3 5 w.heap.size 0 N N ⟨b,0,none⟩ 1 1 _ 5 [.int .u8 (x:Int)] underlying26 zfO (heap_alloc_new _ _)
   (show 1=min 1 N by omega) (λj v hv=>(by match j,hv with
    |0,hv=>simp at hv;subst hv;exact(Below.cell ((Below.refl w.heap.size w).alloc qR _) hbl).trans HC.o
    |j+1,hv=>simp at hv)) (by rw[List.size_toArray,z21 qZ];simp;omega) (by simp[Value.oneCell'])
  refine⟨_,?_,?_,hr⟩
  · rw[setRow_heap _ _ _ _ _ _ (heap_alloc_new _ _)]
    congr 3;exact z3Y x (k:=0) (m:=1) (by omega)
  · exact _root_.Go.below_setRow (qL) qR _
 obtain⟨HG2,HB2⟩:=qh2 hg2 hb2;clear hg2 hb2;go_enter func287,ntmps287;go_wp2_with (go_at_call 312;(with_reducible refine(HM.o _).mono ?_);rintro e w1 ⟨rfl,rfl⟩);clear hml hmk hcp
 go_loopw [8] (λi wr=> ∃k:Nat,1<=k/\k<=N/\i=.int .i64 k/\wr.heap[w.heap.size]? =some (.cells (rpl x k N).toArray 5 (0,0))/\Below w.heap.size w wr) (λi _=>N - (intOf i).toNat)
 case atStart=>exact⟨1,qR,h1,rfl,HG2.o,HB2.o⟩
 case round=>
  obtain⟨k,hk1,hk2,rfl,hg,hb⟩:=hrel;by_cases hlt:k<N
  · obtain⟨m,hm⟩:∃m,min k (N - k)=m:=⟨_,rfl⟩
    have hkm:k+m<=N:=(by omega);have hm1:1<=m:=by omega
    obtain⟨w4,hg4,hb4,hcp⟩:∃w4,w4.heap[w.heap.size]? =some (.cells (rpl x (k+m) N).toArray 5 (0,0))/\Below w.heap.size w w4/\
     (Builtin.copy_ #[26,26] 3 #[.slice (some ⟨w.heap.size,k,none⟩) (N - k) (N - k),.slice (some ⟨w.heap.size,0,none⟩) k N]).run prog wr.drew=.ok (.int .i64 m) w4:=by
     have hg':wr.drew.heap[w.heap.size]? =some (.cells (rpl x k N).toArray 5 (0,0)):=hg
     have hr:=run_copy_row (P:= prog) wr.drew 26 26 3 5 w.heap.size k (N - k) (N - k) ⟨w.heap.size,0,none⟩ k N _ 5 (List.replicate m (.int .u8 (x:Int))) underlying26 zfO hg'
      (show(List.replicate m (Value.int .u8 (x:Int))).length=min k (N - k) by rw[List.length_replicate];exact hm.symm) (λj v hv=>by
       have hj:j<m:=(by have:=(List.getElem?_eq_some_iff.1 hv).1;simpa using this);rw[List.getElem?_replicate,if_pos hj] at hv;rw[nadd_at,Nat.zero_add,cell_of_row _ _ j _ _ (0,0) hg',List.getElem?_toArray,zfb (by omega),<-hv]) (by rw[List.size_toArray,z21 hk2,List.length_replicate];exact hkm) (λv hv=>by rw[List.eq_of_mem_replicate hv];rfl)
     rw[List.length_replicate] at hr;refine⟨_,?_,?_,hr⟩
     · rw[setRow_heap _ _ _ _ _ _ hg']
       congr 3;rw[<-z3Y x hkm];simp[splice]
     · exact _root_.Go.below_setRow (hb.trans (Below.refl _ _).drew) qR _
    obtain⟨HG4,HB4⟩:=qh2 hg4 hb4;have e1:¬(N=k):=(by omega);have e2:wrap64 ((k:Int)+(m:Int))=((k+m:Nat):Int):=(by rw[IntWalk.wrap64_in _ ⟨by omega,by omega⟩];omega);clear hg hb hg4 hb4 hm;go_wp2_with fail
    go_region
    all_goals
     go_wp2;go_roundw
     case rel=>exact⟨k+m,by omega,hkm,by go_num,HG4.o,HB4.o⟩
     case measure=>(simp[intOf];try omega)
  · obtain rfl:k=N:=by omega
    obtain⟨HG,HB⟩:=qh2 hg hb;clear hg hb;go_wp2;go_ret;refine⟨_,rfl,qR,⟨_,HG.o,?_,λi hi=> ?_⟩,HB.o⟩
    · rw[List.size_toArray,z21 qR]
    · rw[List.getElem?_toArray,zfb hi]
theorem z8p{ops:Array Oper}{rest:List Oper}{o:Oper}{a:Act}{w:World}{Q:Exit->Act->World->Prop}(hgd:o.guard=none)(s x:Operand)
 (ho:o.op=.call {callee:=.builtin .append,args:= #[s,x],argTypes:= #[26,26]}) (B:Nat) (v:Value) (l:List Nat) (hs:a.eval s=v) (h:Owb B w v l) (A:Option Addr) (n c:Nat) (r:List Nat)
 (hx:a.eval x=.slice A n c) (hr:IsBys w A n r) (hn:0<n) (hL:l.length+r.length<=3000000) (hB:B<=w.heap.size)
 (hK:∀v' w',Owb B w' v' (l++r)->Below B w w'->wpList prog ops Q rest (a.put o.dst v') w'):wpList prog ops Q (o::rest) a w:=
 wpList_plain hgd λK hK'=>by
  obtain⟨i,h1,h2,h3,h4⟩:=info_of byteInfo;obtain⟨b,q,rfl,hb,hc⟩:=hr.at hn;have hl:=hr.leng
  obtain⟨v',w',r1,r2,r3,_⟩:=run_append_own (P:= prog) w B 26 o.type 5 i _ 1 1 underlying26 h1 h2 h3 h4 rfl (by decide) v l.length (clb l) h ⟨b,q,none⟩ n c (clb r) (by rw[z47];omega)
   (λj u hu=>by
    rw[nadd_at];have hj:j<n:=(by have:=(List.getElem?_eq_some_iff.1 hu).1;rw[z47] at this;omega);rw[hc j hj];unfold clb at hu;rw[List.getElem?_map,qE (by omega)] at hu;rw[List.getD,qE (by omega)];exact hu) (by intro u hu;unfold clb at hu;obtain⟨y,_,rfl⟩:=List.mem_map.1 hu;rfl) (by unfold maxLen;omega) (by omega) hB
  unfold Oper.wp execOp;simp only[ho,resolve,invoke,builtin,Sem.run_bind,Sem.run_pure,Result.andThen_ok,List.map_toArray,List.map_cons,List.map_nil,hs,hx,r1];refine hK' _ _ (hK v' w' ?_ ((Below.refl _ w).grown r3 hB (λk hk=>(World.ownsRow.lt h k hk).1)));unfold Owb;rw[qA,z48,hl];exact r2
theorem zee(n:Nat)(w:World)(h0:0<n)(hn:n<=2000):
 Calls prog 286 #[.slice none 0 0,.int .i64 n] w λe w'=> ∃v,e=.returned v/\Owb w.heap.size w' v []/\Below w.heap.size w w':=by
 obtain⟨i,h1,h2,h3,h4⟩:=info_of byteInfo;have hr:=λty=>Lib.run_append_nil_zeros (P:= prog) w 26 3 ty 5 i _ .i64 .i64 underlying26 (by kernel_rfl) h1 h2 n h0 (by omega) (by omega) (by rw[h4];omega)
 have hG:=grownCap_ge w n 0 5;have hG2:=grownCap_le_maxLen w n 0 5 (by unfold maxLen;omega);generalize hGe:grownCap w n 0 5 =G at hr hG hG2;have hsz:(Builtin.zeroCells (Value.int .u8 0).cells n++Builtin.zeroCells (Value.int .u8 0).cells (G - n)).size=G*1:=by
  rw[Array.size_append,size_zeroCells,size_zeroCells];show n*1+(G - n)*1=G*1
  omega
 generalize hcs:Builtin.zeroCells (Value.int .u8 0).cells n++Builtin.zeroCells (Value.int .u8 0).cells (G - n)=cs at hr hsz;have hown:=World.ownsRow_made (base:=w.heap.size) (e:= 5) (size:=1) w.drew cs G qR hG2 hsz;have HO:=qH hown;have e1:¬(G=0):=(by omega);clear hown hGe hG2 hcs hsz h1 h2 h3 h4;go_enter func286,ntmps286;go_wp2_with (at_builtin;refine Lib.wpList_append_run _ rfl _ _ _ _ rfl _ _ rfl rfl _ _ (hr _) ?_);go_ret;exact⟨_,rfl,HO.o,(Below.refl _ _).drew.alloc qR _⟩
structure Prt where
 A:Option Addr
 n:Nat
 c:Nat
 l:List Nat
instance:Inhabited Prt:=⟨⟨none,0,0,[]⟩⟩
def flt(Ps:List Prt):List Nat:=Ps.flatMap (·.l)
theorem z7X{Ps:List Prt}{k:Nat}(hk:k<Ps.length):flt (Ps.take (k+1))=flt (Ps.take k)++(Ps.getD k default).l:=by
 unfold flt;rw[List.take_add_one,List.flatMap_append,List.getD,qE hk];simp
theorem zj9(Ps:List Prt)(k:Nat):(flt (Ps.take k)).length<=(flt Ps).length:=by
 unfold flt
 conv=>rhs;rw[<-List.take_append_drop k Ps,List.flatMap_append,qA]
 omega
theorem owb_cap{B:Nat}{w:World}{v:Value}{l:List Nat}(h:Owb B w v l){A:Option Addr}{n c:Nat}(hv:v=.slice A n c):l.length<=c:=by
 rcases h.2 with⟨e,h0⟩|⟨g,cap,cur,e,_,_,hnc,_⟩
 · rw[h0];exact qZ
 · rw[hv] at e
   simp only[Value.slice.injEq] at e;omega
def Cct(w:World)(l:List Nat)(e:Ending)(w':World):Prop:=∃A c,e=.returned (.slice A l.length c)/\l.length<=c/\(∀b o,A=some ⟨b,o,none⟩->w.heap.size<=b)/\IsBys w' A l.length l/\Below w.heap.size w w'
theorem z44(z m:Nat)(Ps:List Prt)(w:World)(hm:Ps.length=m)(hm2:m<=100)(hz:z<w.heap.size)(hc:∀i,i<m->w.cell? ⟨z,i,none⟩=some (.slice (Ps.getD i default).A (Ps.getD i default).n (Ps.getD i default).c))
 (hp:∀i,i<m->IsBys w (Ps.getD i default).A (Ps.getD i default).n (Ps.getD i default).l/\0<(Ps.getD i default).n) (h0:0<(flt Ps).length) (ht:(flt Ps).length<=2000):
 Calls prog 252 #[.slice (some ⟨z,0,none⟩) m m] w (Cct w (flt Ps)):=by
 obtain⟨HC,HP⟩:=qh2 hc hp;have HGr:=qH (λw=>zee (flt Ps).length w h0 ht);have HLe:=qH (λk=>zj9 Ps k);have HOk:=qH (show ∀x∈flt Ps,x<=255 from λx hx=>by
  unfold flt at hx;obtain⟨p,hp1,hp2⟩:=List.mem_flatMap.1 hx;obtain⟨i,hi,rfl⟩:=List.getElem_of_mem hp1;have:=(hp i (by omega)).1.good;rw[List.getD,qE hi] at this;exact this x hp2)
 generalize hT:(flt Ps).length=T at HGr h0 ht;have HTe:=qH hT;unfold Cct;clear hc hp hT;go_enter func252,ntmps252;go_wp2
 go_loopw [3,11] (λs i wr=> ∃k t:Nat,k<=m/\s=.int .i64 t/\i=.int .i64 k/\t=(flt (Ps.take k)).length/\w=wr) (λ_ i _=>m - (intOf i).toNat)
 case atStart=>exact⟨0,0,qZ,rfl,rfl,rfl,rfl⟩
 case round=>
  obtain⟨k,t,hk,rfl,rfl,ht2,rfl⟩:=hrel;by_cases hlt:k<m
  · have c0:=HC.o k hlt
    have pl:=(HP.o k hlt).1.leng;have pn:=(HP.o k hlt).2;have hs:=z7X (Ps:=Ps) (k:=k) (by omega);have hle:=HLe.o (k+1);rw[HTe.o] at hle;have hs2:=congrArg List.length hs;rw[qA,pl,<-ht2] at hs2;obtain⟨A,hA⟩:∃A,(Ps.getD k default).A=A:=⟨_,rfl⟩
    obtain⟨n,hn⟩:∃n,(Ps.getD k default).n=n:=⟨_,rfl⟩
    obtain⟨c,hcc⟩:∃c,(Ps.getD k default).c=c:=⟨_,rfl⟩
    rw[hA,hn,hcc] at c0;rw[hn] at hs2;have HS:=qH hs2;have b1:t+n<=2000:=(by omega);have e2:wrap64 ((t:Int)+(n:Int))=((t+n:Nat):Int):=(by rw[IntWalk.wrap64_in _ ⟨by omega,by omega⟩];omega);have k2:k<=100:=(by omega);clear hs hs2 ht2 hA hn hcc pl pn hle;go_wp2;go_roundw
    case rel=>exact⟨k+1,t+n,by omega,by go_num,by go_num,HS.o.symm,trivial⟩
    case measure=>(simp[intOf];try omega)
  · obtain rfl:k=m:=by omega
    have d1:decide ((k:Int)<(k:Int))=false:=qF (by omega);have d1':decide (k<k)=false:=qF (by omega);have htT:t=T:=(by rw[<-HTe.o,ht2,List.take_of_length_le (by omega)]);subst htT;clear ht2;go_wp2_with (go_at_call 286;(with_reducible refine(HGr.o _).mono ?_);rintro e w1 ⟨v,rfl,o1,b1⟩;obtain⟨O1,B1⟩:=qh2 o1 b1;clear o1 b1)
    go_loopw [6,27] (λv i wr=> ∃j:Nat,j<=k/\i=.int .i64 j/\Owb w.heap.size wr v (flt (Ps.take j))/\Below w.heap.size w wr) (λ_ i _=>k - (intOf i).toNat)
    case atStart=>exact⟨0,qZ,rfl,O1.o,B1.o⟩
    case round=>
     obtain⟨j,hj,rfl,ho,hb⟩:=hrel;by_cases hlt2:j<k
     · have c0:=(hb.cell (p:=⟨z,j,none⟩) hz).trans (HC.o j hlt2)
       have pn:=(HP.o j hlt2).2;have hi:=(HP.o j hlt2).1.below hb;have hs:=z7X (Ps:=Ps) (k:=j) (by omega);have hle:=HLe.o (j+1);rw[HTe.o,hs,qA] at hle;obtain⟨A,hA⟩:∃A,(Ps.getD j default).A=A:=⟨_,rfl⟩
       obtain⟨n,hn⟩:∃n,(Ps.getD j default).n=n:=⟨_,rfl⟩
       obtain⟨c,hcc⟩:∃c,(Ps.getD j default).c=c:=⟨_,rfl⟩
       obtain⟨l,hll⟩:∃l,(Ps.getD j default).l=l:=⟨_,rfl⟩
       rw[hA,hn,hcc] at c0;rw[hn] at pn;rw[hA,hn,hll] at hi;rw[hll] at hs hle;obtain⟨HS,HI,HO,HB,HN⟩:=qh5 hs hi ho hb pn;have HL:=qH (show(flt (Ps.take j)).length+l.length<=3000000 by omega);have k2:j<=100:=(by omega);clear hs hi ho hb hA hn hcc hll hle pn;go_wp2_with (at_builtin;refine z8p rfl _ _ rfl w.heap.size _ (flt (Ps.take j)) rfl HO.o _ _ _ l rfl HI.o HN.o HL.o HB.o.size ?_;intro v2 w2 o2 b2;obtain⟨O2,B2⟩:=qh2 o2 b2;clear o2 b2);go_roundw
       case rel=>exact⟨j+1,by omega,by go_num,by rw[HS.o];exact O2.o,HB.o.trans B2.o⟩
       case measure=>(simp[intOf];try omega)
     · obtain rfl:j=k:=by omega
       rw[List.take_of_length_le (by omega)] at ho;obtain⟨A,c,hv,hb2⟩:=ho.bys HOk.o (by rw[HTe.o];unfold maxLen;omega);have HNew:=qH (show ∀b o,A=some ⟨b,o,none⟩->w.heap.size<=b from λb o e=>(ho.lt b (by rw[hv,e];rfl)).1);have HCap:=qH (owb_cap ho hv);obtain⟨HV,HI,HB⟩:=qh3 hv hb2 hb;clear ho hv hb2 hb;go_wp2;go_ret;exact⟨A,c,by rw[HV.o];rfl,HCap.o,HNew.o,HI.o,HB.o⟩
