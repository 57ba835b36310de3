import Derived.Test.YthgilhebnlglkaaGreatDoorKMBwG
import Derived.Laws.CopyOwn
import Derived.Lib.AppendZeros
set_option linter.all false
set_option maxHeartbeats 0
set_option maxRecDepth 1000000
open Go.Proofs.Tryz
namespace Go.Proofs.YthgilhebnlglkaaGreatDoor
namespace V
open Go Go.RowKit M U
theorem ub(N:Nat)(w:World)(c:N<=400):Calls prog 332 #[.int .u64 1,.int .u64 N] w λe w'=>e=.returned (.tuple #[.int .u64 0,.int .u64 N])/\w=w':=by
 have g:bits .and .u64 (N:Int) 4294967295=(N:Int):=by
  have h:=bits_and_u64_nat N 4294967295 (by omega) (by omega);rw[show N&&&4294967295=N from(Dw N 32).trans (Ar (by omega))] at h;exact h
 have a:(N:Int) /4294967296=0:=(by omega);have i:bits .and .u64 (1:Int) 4294967295=1:=(by decide+kernel);have d:bits .and .u64 (0:Int) 4294967295=0:=(by decide+kernel);have j:IntKind.u64.wrap (N:Int)=(N:Int):=(by rw[IntKind.wrap_u64];omega);have b:(1:Int)*(N:Int)=(N:Int):=(by omega);go_enter func332,ntmps332;go_wp2;exact bodyPost_ret (v:=.tuple #[.int .u64 0,.int .u64 N]) (by simp[results,results332,go_sem]) rfl ⟨rfl,rfl⟩
theorem mul_one(N:Nat)(w:World)(b:N<=400):Calls prog 312 #[.int .u64 1,.int .u64 N] w λe w'=>e=.returned (.tuple #[.int .u64 0,.int .u64 N])/\w=w':=by
 have a:=qH (λw=>ub N w b);go_enter func312,ntmps312;go_wp2_with (go_at_call 332;(with_reducible refine(a.o _).mono ?_);rintro e c ⟨rfl,rfl⟩);exact bodyPost_ret (v:=.tuple #[.int .u64 0,.int .u64 N]) (by simp[results,results312,go_sem]) rfl ⟨rfl,rfl⟩
def rpl(x k N:Nat):List Value:=List.replicate k (.int .u8 (x:Int))++List.replicate (N - k) (.int .u8 0)
theorem dN{x k N:Nat}(h:k<=N):(rpl x k N).length=N:=by unfold rpl;simp;omega
theorem xy(x N:Nat):rpl x 0 N=List.replicate N (.int .u8 0):=by unfold rpl;simp
theorem DZ{x k N i:Nat}(h:i<k):(rpl x k N)[i]? =some (.int .u8 (x:Int)):=by
 unfold rpl;rw[Dk (by simpa using h),Dl,A7 h]
theorem gX(x:Nat){k m N:Nat}(h:k+m<=N):splice (rpl x k N) k (List.replicate m (.int .u8 (x:Int)))=rpl x (k+m) N:=by
 unfold splice rpl;rw[CO (by simp),Aj (by simp),List.drop_append,Dh (by simp),Ap,<-qD,Du];simp;omega
def Rpt(w:World)(x N:Nat)(e:Ending)(w':World):Prop:=∃g,e=.returned (.slice (some ⟨g,0,none⟩) N N)/\w.heap.size<=g/\Br w' g N (λ_=>x)/\Below w.heap.size w w'
theorem EN:(prog.info? 5).map (·.size)=some 1:=by kernel_rfl
theorem qj(b x N:Nat)(w:World)(K:1<=N)(H:N<=400)(u:w.cell? ⟨b,0,none⟩=some (.int .u8 (x:Nat))):
 Calls prog 287 #[.slice (some ⟨b,0,none⟩) 1 1,.int .i64 N] w (Rpt w x N):=by
 have B:=qB u;have Q:=qH (λw=>mul_one N w H);have E:=λw=>jb w N H
 have y:madeCells #[.int .u8 0] N=(rpl x 0 N).toArray:=by
  rw[xy,<-toList_madeCells_one]
 have L:=qH u;unfold Rpt;clear u
 obtain⟨w2,h,g,n⟩:∃w2,w2.heap[w.heap.size]? =some (.cells (rpl x 1 N).toArray 5 (0,0))/\Below w.heap.size w w2/\
  (Builtin.copy_ #[26,26] 3 #[.slice (some ⟨w.heap.size,0,none⟩) N N,.slice (some ⟨b,0,none⟩) 1 1]).run prog (w.alloc (.cells (rpl x 0 N).toArray 5))=.ok (.int .i64 1) w2:=by
  have r:=run_copy_row (P:= prog) (w.alloc (.cells (rpl x 0 N).toArray 5)) 26 26 3 5 w.heap.size 0 N N ⟨b,0,none⟩ 1 1 _ 5 [.int .u8 (x:Int)] underlying26 EN (heap_alloc_new _ _)
   (show 1=min 1 N by omega) (λj v a=>(by match j,a with
    |0,a=>simp at a;subst a;exact(Below.cell ((Below.refl w.heap.size w).alloc qR _) B).trans L.o
    |j+1,a=>simp at a)) (by rw[AE,dN qZ];simp;omega) (by simp[Value.oneCell'])
  refine⟨_,?_,?_,r⟩
  · rw[setRow_heap _ _ _ _ _ _ (heap_alloc_new _ _)]
    congr 3;exact gX x (k:=0) (m:=1) (by omega)
  · exact _root_.Go.below_setRow (qL) qR _
 obtain⟨D,C⟩:=qh2 h g;clear h g;go_enter func287,ntmps287;go_wp2_with (go_at_call 312;(with_reducible refine(Q.o _).mono ?_);rintro e U ⟨rfl,rfl⟩);clear y E n
 go_loopw [8] (λi wr=> ∃k:Nat,1<=k/\k<=N/\i=.int .i64 k/\wr.heap[w.heap.size]? =some (.cells (rpl x k N).toArray 5 (0,0))/\Below w.heap.size w wr) (λi _=>N - (intOf i).toNat)
 case atStart=>exact⟨1,qR,K,rfl,D.o,C.o⟩
 case round=>
  obtain⟨k,I,F,rfl,q,s⟩:=hrel;by_cases R:k<N
  · obtain⟨m,G⟩:∃m,min k (N - k)=m:=⟨_,rfl⟩
    have d:k+m<=N:=(by omega);have S:1<=m:=by omega
    obtain⟨w4,l,p,n⟩:∃w4,w4.heap[w.heap.size]? =some (.cells (rpl x (k+m) N).toArray 5 (0,0))/\Below w.heap.size w w4/\
     (Builtin.copy_ #[26,26] 3 #[.slice (some ⟨w.heap.size,k,none⟩) (N - k) (N - k),.slice (some ⟨w.heap.size,0,none⟩) k N]).run prog wr.drew=.ok (.int .i64 m) w4:=by
     have c:wr.drew.heap[w.heap.size]? =some (.cells (rpl x k N).toArray 5 (0,0)):=q
     have r:=run_copy_row (P:= prog) wr.drew 26 26 3 5 w.heap.size k (N - k) (N - k) ⟨w.heap.size,0,none⟩ k N _ 5 (List.replicate m (.int .u8 (x:Int))) underlying26 EN c
      (show(List.replicate m (Value.int .u8 (x:Int))).length=min k (N - k) by rw[AP];exact G.symm) (λj v a=>by
       have M:j<m:=(by have:=(An.1 a).1;simpa using this);rw[Dl,A7 M] at a;rw[nadd_at,Aa,cell_of_row _ _ j _ _ (0,0) c,Cb,DZ (by omega),<-a]) (by rw[AE,dN F,AP];exact d) (λv a=>by rw[BD a];rfl)
     rw[AP] at r;refine⟨_,?_,?_,r⟩
     · rw[setRow_heap _ _ _ _ _ _ c]
       congr 3;rw[<-gX x d];simp[splice]
     · exact _root_.Go.below_setRow (s.trans (Below.refl _ _).drew) qR _
    obtain⟨z,A⟩:=qh2 l p;have T:¬(N=k):=(by omega);have V:wrap64 ((k:Int)+(m:Int))=((k+m:Nat):Int):=(by rw[IntWalk.wrap64_in _ ⟨by omega,by omega⟩];omega);clear q s l p G;go_wp2_with fail
    go_region
    all_goals
     go_wp2;go_roundw
     case rel=>exact⟨k+m,by omega,d,by go_num,z.o,A.o⟩
     case measure=>(simp[intOf];try omega)
  · obtain rfl:k=N:=by omega
    obtain⟨O,J⟩:=qh2 q s;clear q s;go_wp2;go_ret;refine⟨_,rfl,qR,⟨_,O.o,?_,λi hi=> ?_⟩,J.o⟩
    · rw[AE,dN qR]
    · rw[Cb,DZ hi]
theorem pP{f:Array Oper}{d:List Oper}{o:Oper}{a:Act}{w:World}{Q:Exit->Act->World->Prop}(p:o.guard=none)(s x:Operand)
 (J:o.op=.call {callee:=.builtin .append,args:= #[s,x],argTypes:= #[26,26]}) (B:Nat) (v:Value) (l:List Nat) (hs:a.eval s=v) (h:Owb B w v l) (A:Option Addr) (n c:Nat) (r:List Nat)
 (D:a.eval x=.slice A n c) (C:IsBys w A n r) (U:0<n) (V:l.length+r.length<=3000000) (z:B<=w.heap.size)
 (G:∀g w',Owb B w' g (l++r)->Below B w w'->wpList prog f Q d (a.put o.dst g) w'):wpList prog f Q (o::d) a w:=
 wpList_plain p λK m=>by
  obtain⟨i,H,M,N,R⟩:=info_of byteInfo;obtain⟨b,q,rfl,W,F⟩:=C.at U;have E:=C.leng
  obtain⟨g,w',T,L,S,_⟩:=run_append_own (P:= prog) w B 26 o.type 5 i _ 1 1 underlying26 H M N R rfl (by decide) v l.length (clb l) h ⟨b,q,none⟩ n c (clb r) (by rw[iv];omega)
   (λj u e=>by
    rw[nadd_at];have O:j<n:=(by have:=(An.1 e).1;rw[iv] at this;omega);rw[F j O];unfold clb at e;rw[Am,qE (by omega)] at e;rw[List.getD,qE (by omega)];exact e) (by intro u e;unfold clb at e;obtain⟨y,_,rfl⟩:=Ay.1 e;rfl) (by unfold maxLen;omega) (by omega) z
  unfold Oper.wp execOp;simp only[J,resolve,invoke,builtin,Sem.run_bind,Sem.run_pure,Result.andThen_ok,AV,Al,Av,hs,D,T];refine m _ _ (G g w' ?_ ((Below.refl _ w).grown S z (λk I=>(World.ownsRow.lt h k I).1)));unfold Owb;rw[qA,iw,E];exact L
theorem yW(n:Nat)(w:World)(r:0<n)(u:n<=2000):
 Calls prog 286 #[.slice none 0 0,.int .i64 n] w λe w'=> ∃v,e=.returned v/\Owb w.heap.size w' v []/\Below w.heap.size w w':=by
 obtain⟨i,j,k,p,l⟩:=info_of byteInfo;have h:=λty=>Lib.run_append_nil_zeros (P:= prog) w 26 3 ty 5 i _ .i64 .i64 underlying26 (by kernel_rfl) j k n r (by omega) (by omega) (by rw[l];omega)
 have q:=grownCap_ge w n 0 5;have c:=grownCap_le_maxLen w n 0 5 (by unfold maxLen;omega);generalize d:grownCap w n 0 5 =G at h q c;have b:(Builtin.zeroCells (Value.int .u8 0).cells n++Builtin.zeroCells (Value.int .u8 0).cells (G - n)).size=G*1:=by
  rw[DI,size_zeroCells,size_zeroCells];show n*1+(G - n)*1=G*1
  omega
 generalize g:Builtin.zeroCells (Value.int .u8 0).cells n++Builtin.zeroCells (Value.int .u8 0).cells (G - n)=cs at h b;have a:=World.ownsRow_made (base:=w.heap.size) (e:= 5) (size:=1) w.drew cs G qR c b;have m:=qH a;have s:¬(G=0):=(by omega);clear a d c g b j k p l;go_enter func286,ntmps286;go_wp2_with (at_builtin;refine Lib.wpList_append_run _ rfl _ _ _ _ rfl _ _ rfl rfl _ _ (h _) ?_);go_ret;exact⟨_,rfl,m.o,(Below.refl _ _).drew.alloc qR _⟩
structure Prt where
 A:Option Addr
 n:Nat
 c:Nat
 l:List Nat
instance:Inhabited Prt:=⟨⟨none,0,0,[]⟩⟩
def flt(Ps:List Prt):List Nat:=Ps.flatMap (·.l)
theorem oW{Ps:List Prt}{k:Nat}(a:k<Ps.length):flt (Ps.take (k+1))=flt (Ps.take k)++(Ps.getD k default).l:=by
 unfold flt;rw[Bd,AL,List.getD,qE a];simp
theorem JT(Ps:List Prt)(k:Nat):(flt (Ps.take k)).length<=(flt Ps).length:=by
 unfold flt
 conv=>rhs;rw[<-Bb k Ps,AL,qA]
 omega
theorem owb_cap{B:Nat}{w:World}{v:Value}{l:List Nat}(h:Owb B w v l){A:Option Addr}{n c:Nat}(a:v=.slice A n c):l.length<=c:=by
 rcases h.2 with⟨e,i⟩|⟨g,b,f,e,_,_,d,_⟩
 · rw[i];exact qZ
 · rw[a] at e
   simp only[Value.slice.injEq] at e;omega
def Cct(w:World)(l:List Nat)(e:Ending)(w':World):Prop:=∃A c,e=.returned (.slice A l.length c)/\l.length<=c/\(∀b o,A=some ⟨b,o,none⟩->w.heap.size<=b)/\IsBys w' A l.length l/\Below w.heap.size w w'
theorem ik(z m:Nat)(Ps:List Prt)(w:World)(hm:Ps.length=m)(a0:m<=100)(hz:z<w.heap.size)(hc:∀i,i<m->w.cell? ⟨z,i,none⟩=some (.slice (Ps.getD i default).A (Ps.getD i default).n (Ps.getD i default).c))
 (P:∀i,i<m->IsBys w (Ps.getD i default).A (Ps.getD i default).n (Ps.getD i default).l/\0<(Ps.getD i default).n) (h0:0<(flt Ps).length) (ht:(flt Ps).length<=2000):
 Calls prog 252 #[.slice (some ⟨z,0,none⟩) m m] w (Cct w (flt Ps)):=by
 obtain⟨HC,N⟩:=qh2 hc P;have I:=qH (λw=>yW (flt Ps).length w h0 ht);have J:=qH (λk=>JT Ps k);have W:=qH (show ∀x∈flt Ps,x<=255 from λx X=>by
  unfold flt at X;obtain⟨p,O,R⟩:=Cg.1 X;obtain⟨i,hi,rfl⟩:=Cm O;have:=(P i (by omega)).1.good;rw[List.getD,qE hi] at this;exact this x R)
 generalize hT:(flt Ps).length=T at I h0 ht;have r:=qH hT;unfold Cct;clear hc P hT;go_enter func252,ntmps252;go_wp2
 go_loopw [3,11] (λs i wr=> ∃k t:Nat,k<=m/\s=.int .i64 t/\i=.int .i64 k/\t=(flt (Ps.take k)).length/\w=wr) (λ_ i _=>m - (intOf i).toNat)
 case atStart=>exact⟨0,0,qZ,rfl,rfl,rfl,rfl⟩
 case round=>
  obtain⟨k,t,hk,rfl,rfl,h,rfl⟩:=hrel;by_cases B:k<m
  · have c0:=HC.o k B
    have pl:=(N.o k B).1.leng;have K:=(N.o k B).2;have hs:=oW (Ps:=Ps) (k:=k) (by omega);have a:=J.o (k+1);rw[r.o] at a;have q:=congrArg List.length hs;rw[qA,pl,<-h] at q;obtain⟨A,D⟩:∃A,(Ps.getD k default).A=A:=⟨_,rfl⟩
    obtain⟨n,u⟩:∃n,(Ps.getD k default).n=n:=⟨_,rfl⟩
    obtain⟨c,g⟩:∃c,(Ps.getD k default).c=c:=⟨_,rfl⟩
    rw[D,u,g] at c0;rw[u] at q;have S:=qH q;have Q:t+n<=2000:=(by omega);have e2:wrap64 ((t:Int)+(n:Int))=((t+n:Nat):Int):=(by rw[IntWalk.wrap64_in _ ⟨by omega,by omega⟩];omega);have k2:k<=100:=(by omega);clear hs q h D u g pl K a;go_wp2;go_roundw
    case rel=>exact⟨k+1,t+n,by omega,by go_num,by go_num,S.o.symm,trivial⟩
    case measure=>(simp[intOf];try omega)
  · obtain rfl:k=m:=by omega
    have d1:decide ((k:Int)<(k:Int))=false:=qF (by omega);have a1:decide (k<k)=false:=qF (by omega);have U:t=T:=(by rw[<-r.o,h,Aj (by omega)]);subst U;clear h;go_wp2_with (go_at_call 286;(with_reducible refine(I.o _).mono ?_);rintro e w1 ⟨v,rfl,Z,Q⟩;obtain⟨O1,B1⟩:=qh2 Z Q;clear Z Q)
    go_loopw [6,27] (λv i wr=> ∃j:Nat,j<=k/\i=.int .i64 j/\Owb w.heap.size wr v (flt (Ps.take j))/\Below w.heap.size w wr) (λ_ i _=>k - (intOf i).toNat)
    case atStart=>exact⟨0,qZ,rfl,O1.o,B1.o⟩
    case round=>
     obtain⟨j,hj,rfl,y,E⟩:=hrel;by_cases d:j<k
     · have c0:=(E.cell (p:=⟨z,j,none⟩) hz).trans (HC.o j d)
       have K:=(N.o j d).2;have hi:=(N.o j d).1.below E;have hs:=oW (Ps:=Ps) (k:=j) (by omega);have a:=J.o (j+1);rw[r.o,hs,qA] at a;obtain⟨A,D⟩:∃A,(Ps.getD j default).A=A:=⟨_,rfl⟩
       obtain⟨n,u⟩:∃n,(Ps.getD j default).n=n:=⟨_,rfl⟩
       obtain⟨c,g⟩:∃c,(Ps.getD j default).c=c:=⟨_,rfl⟩
       obtain⟨l,C⟩:∃l,(Ps.getD j default).l=l:=⟨_,rfl⟩
       rw[D,u,g] at c0;rw[u] at K;rw[D,u,C] at hi;rw[C] at hs a;obtain⟨S,V,HO,M,HN⟩:=qh5 hs hi y E K;have HL:=qH (show(flt (Ps.take j)).length+l.length<=3000000 by omega);have k2:j<=100:=(by omega);clear hs hi y E D u g C a K;go_wp2_with (at_builtin;refine pP rfl _ _ rfl w.heap.size _ (flt (Ps.take j)) rfl HO.o _ _ _ l rfl V.o HN.o HL.o M.o.size ?_;intro v2 w2 Y b2;obtain⟨O2,B2⟩:=qh2 Y b2;clear Y b2);go_roundw
       case rel=>exact⟨j+1,by omega,by go_num,by rw[S.o];exact O2.o,M.o.trans B2.o⟩
       case measure=>(simp[intOf];try omega)
     · obtain rfl:j=k:=by omega
       rw[Aj (by omega)] at y;obtain⟨A,c,L,H⟩:=y.bys W.o (by rw[r.o];unfold maxLen;omega);have F:=qH (show ∀b o,A=some ⟨b,o,none⟩->w.heap.size<=b from λb o e=>(y.lt b (by rw[L,e];rfl)).1);have G:=qH (owb_cap y L);obtain⟨HV,V,M⟩:=qh3 L H E;clear y L H E;go_wp2;go_ret;exact⟨A,c,by rw[HV.o];rfl,G.o,F.o,V.o,M.o⟩
