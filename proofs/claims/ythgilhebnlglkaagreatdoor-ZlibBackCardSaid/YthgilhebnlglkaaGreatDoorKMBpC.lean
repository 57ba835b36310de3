import Derived.Test.YthgilhebnlglkaaGreatDoorKBpB
import Derived.Test.YthgilhebnlglkaaGreatDoorKSaD
set_option linter.all false
set_option maxHeartbeats 0
set_option maxRecDepth 1000000
open Go.Proofs.Tryz
namespace Go.Proofs.YthgilhebnlglkaaGreatDoor
namespace V
open Go Go.RowKit M U
attribute [local go_sem] Oper.semAt_some
structure Kq(R X n₁:Nat)(W W':World):Prop where
 k:Kept (Sx R X n₁) W W'
 t:∀ (i:Nat) (x y z:Int) (fz:Nat×Nat),W.heap[i]? =some (.cells #[.int .u8 x,.int .i64 y,.int .i64 z] 139 fz)->W'.heap[i]? =some (.cells #[.int .u8 x,.int .i64 y,.int .i64 z] 139 fz)
section
variable {R X n₁:Nat} {A B C W W':World}
theorem Kq.refl(W:World):Kq R X n₁ W W:=⟨Kept.refl _ _,λ_ _ _ _ _ h=>h⟩
theorem Kq.trans(h:Kq R X n₁ A B)(k:Kq R X n₁ B C):Kq R X n₁ A C:=⟨keptSx_t h.k k.k,λi x y z fz e=>k.t i x y z fz (h.t i x y z fz e)⟩
theorem Kq.of_below(a:Below W.heap.size W W'):Kq R X n₁ W W':=⟨(Kept.of_below a).none _,λi x y z fz e=>(a.block i (qW.1 e).1).trans e⟩
theorem Kq.book(W:World)(l:Nat)(o a:Obj)(c:n₁<=l)(h:W.heap[l]? =some o)(b:o.isCells=false):Kq R X n₁ W (W.putObj l a):=by
 refine⟨keptSx_b W l o a c h,λi x y z fz e=> ?_⟩;rw[World.putObj_heap_other (λq=> ?_)]
 · exact e
 · subst q
   rw[e] at h;cases h;cases b
end
theorem nE{S:Nat->Prop}{w w':World}(h:Y.Tab w)(a:Kept S w w')(b:¬S 2)(c:¬S 3):Y.Tab w':=
 ⟨a.cell h.l0 b,a.cell h.l1 b,a.cell h.l2 b,a.cell h.l3 b,a.cell h.l4 b,a.cell h.d0 c,a.cell h.d1 c,a.cell h.d2 c,a.cell h.d3 c,a.cell h.d4 c⟩
theorem KY{L:List Tk}(f:∀t∈L,may t=true):∀y∈sys L,y.e<2^y.b:=by
 intro y hy;unfold sys at hy;rw[AH,Cg] at hy;rcases hy with⟨t,g,hy⟩|hy
 · have a:=f t g
   unfold sy1 at hy
   split at hy
   · simp only[Bc] at hy
     subst hy;simp
   · rename_i i
     have j:isM t=true:=by
      unfold may at a;rw[Cp] at a;rcases a with q|q
      · exact absurd (isB_iff.1 q).1 i
      · exact q
     have c:=isM_iff.1 j;obtain⟨h,l,p⟩:=fA (n:=t.n.toNat) (by omega);obtain⟨k,o,r⟩:=dh (n:=t.d.toNat) (by omega);have m:=Gz h;simp only[Ab,BH,BI] at hy;rcases hy with rfl|rfl
     · show t.n.toNat - ll (lsy t.n.toNat)<2^lb (lsy t.n.toNat);omega
     · show t.d.toNat - dl (dsy t.d.toNat)<ds (dsy t.d.toNat);omega
 · simp only[Bc] at hy
   subst hy;simp
def Oky(y:Sy):Prop:=((y.d=false->y.n<286)/\(y.d=true->y.n<30))/\y.b<=13/\y.e<=32768/\y.e<2^y.b
abbrev Oy:={y:Sy//Oky y}
def EB(y:Sy):Array Value:= #[sgv y]
theorem vj(a:Nat):EB ⟨false,a,0,0⟩= #[.agg #[.bool false,.int .i64 a,.int .u32 0,.int .u8 0]]:=rfl
theorem zc:EB ⟨false,256,0,0⟩= #[.agg #[.bool false,.int .i64 256,.int .u32 0,.int .u8 0]]:=rfl
theorem gD{W W':World}(a:Below W.heap.size W W')(row:Option Nat):W.grownBy W' row:=⟨a.os,a.tape,a.output,a.size,λk b _=>a.block k b⟩
theorem ug{t:Tk}(e:t.ok)(c:may t=true):(t.n=0/\∃a:Nat,t.l=a/\a<=255)\/(∃a b:Nat,t.n=a/\t.d=b/\3<=a/\a<=258/\1<=b/\b<=32768):=by
 unfold may at c;rw[Cp] at c;rcases c with q|q
 · have:=isB_iff.1 q
   have:=e.l;exact .inl ⟨by omega,t.l.toNat,by omega,by omega⟩
 · have:=isM_iff.1 q
   exact .inr ⟨t.n.toNat,t.d.toNat,by omega,by omega,by omega,by omega,by omega,by omega⟩
theorem lL(m l Bs R X n₁ n c:Nat)(A:Option Addr)(L:List Tk)(hm:1<=m)(hn:n<=100000)(aH:Bs<n₁)(aJ:Bs≠R)(aN:Bs≠X)
 (hG:∀g,g= 2 \/g= 3 ->g<n₁/\g≠R/\g≠X) (V:World) (aK:n₁<=V.heap.size) (J Jx:List Sy->World->Prop) (hJ:AbidesFrom V.heap.size J)
 (hY:∀j x W,Oky x->J j W->j.length<(sys L).length->YieldAt Fence.wide (m - 1) prog l (EB x) W λe W'=>
  (e=.returned (.bool true)/\J (j++[x]) W'/\Kq R X n₁ W W')\/(e=.returned (.bool false)/\Jx (j++[x]) W'))
 (aI:V.cell? ⟨Bs,0,none⟩=some (.slice A n c)) (hl:L.length=n) (a6:∀t∈L,t.ok) (s:∀t∈L,may t=true)
 (hc:0<n->∃b o,A=some ⟨b,o,none⟩/\b<n₁/\b≠R/\b≠X/\∀i,i<n->(L.getD i default).lies V b o i) (hT:Y.Tab V) (h0:J [] V):
 CallsIn Fence.wide m prog 282 #[.func (.yield l) #[] #[],.pointer (some ⟨Bs,0,none⟩)] V λe W'=>(∃v,e=.returned v)/\
  ((∃ys:List Sy,ys=sys L/\J ys W')\/(∃j:List Sy,(∃r,j++r=sys L)/\Jx j W')):=by
 refine callsIn_of_wp func282 rfl trivial ?_ rfl;simp only[ntmps282,AE,qC,AB,Nat.reduceAdd,Nat.reduceSub,Be,Bf,Bg,Bh,Ap,Ac]
 have aa:=qH (show ∀k,∃r,(L.take k).flatMap sy1++r=sys L from λk=>⟨(L.drop k).flatMap sy1++[⟨false,256,0,0⟩],by
  rw[<-qD,<-AL,Bb];rfl⟩)
 obtain⟨HT,M⟩:=qh2 hT hG;have ag:=qH (λ(l d:Int) (n:Nat) (w:World) (H:Y.Tab w) (hn:3<=n/\n<=258)=>lengthOf_any l d n w H hn);have a9:=qH (λ(l d:Int) (n:Nat) (w:World) (H:Y.Tab w) (hn:1<=n/\n<=32768)=>qX l d n w H hn);obtain⟨au,ai,an⟩:=qh3 a6 s hl;have ah:=qH (λ(y:Sy) (N:y∈sys L)=>(show Oky y from⟨sJ s a6 y N,(xd s y N).1,(xd s y N).2,KY s y N⟩));have HJ:=qH (λj W W' (h:J j W) (hb:Below W.heap.size W W')=>hJ j W W' none h (gD hb none) (λr e=>by cases e));obtain⟨HY,a1⟩:=qh2 hY hc;clear hT hG a6 s hl hJ hY hc;gi_wp2
 gi_loopw [7] (λi wr=> ∃ (k:Nat) (j:List Sy),k<=n/\i=.int .i64 k/\j=(L.take k).flatMap sy1/\J j wr/\Kq R X n₁ V wr)
  (λi _=>n - (intOf i).toNat)
 case atStart=>exact⟨0,[],qZ,rfl,rfl,h0,Kq.refl _⟩
 case round=>
  obtain⟨k,j,hk,rfl,hp,Q,E⟩:=hrel;by_cases al:k<n
  · obtain⟨b,o,rfl,ac,a3,a4,ab⟩:=a1.o (by omega)
    obtain⟨c0,c1,c2⟩:=ab k al;have e0:=E.k.cell c0 (sx_no ac a3 a4);have e1:=E.k.cell c1 (sx_no ac a3 a4);have e2:=E.k.cell c2 (sx_no ac a3 a4);have a2:k<L.length:=(by rw[an.o];exact al);have z:L.getD k default∈L:=by
     rw[List.getD,qE a2];exact AW _
    have D:=ug (au.o _ z) (ai.o _ z);have hsucc:=yX L k a2;have u:∀y∈sy1 (L.getD k default),Oky y:=λy N=>ah.o y (BF _ (Cg.2 ⟨_,z,N⟩))
    generalize ht:L.getD k default=t at e0 e1 e2 D hsucc u;rw[<-hp] at hsucc;have q:j.length+(sy1 t).length+1<=(sys L).length:=by
     have h1:((L.take (k+1)).flatMap sy1).length<=(L.flatMap sy1).length:=by
      conv=>rhs;rw[<-Bb (k+1) L,AL,qA]
      omega
     rw[hsucc,qA] at h1;unfold sys;rw[qA,Bn];omega
    obtain⟨tl,tn,td⟩:=t;simp only at e0 e1 e2 D;have a8:k<9223372036854775807:=(by omega);have U:Below wr.heap.size wr (wr.alloc (.cells #[.int .u8 tl,.int .i64 tn,.int .i64 td] 139)):=qL;have Z:=HJ.o j wr _ Q U;have a7:Kq R X n₁ V (wr.alloc (.cells #[.int .u8 tl,.int .i64 tn,.int .i64 td] 139)):=E.trans (Kq.of_below U);have S:=heap_alloc_new wr (.cells #[.int .u8 tl,.int .i64 tn,.int .i64 td] 139);obtain⟨HK,HS,aO⟩:=qh3 a7 hsucc q;rcases D with⟨rfl,a,rfl,ha⟩|⟨a,d,rfl,rfl,ax,aq,aB,ar⟩
    · have O:sy1 ⟨(a:Int),0,td⟩=[⟨false,a,0,0⟩]:=by
       show[(⟨false,(a:Int).toNat,0,0⟩:Sy)]=_
       rw[Au]
      rw[O] at hsucc q u;have HS:=qH hsucc;have p:j.length<(sys L).length:=(by simp at q;omega);obtain⟨fn,tmps,G,body,N,hR⟩:=HY.o j ⟨false,a,0,0⟩ _ (u _ (by simp)) Z p;rw[vj] at N;clear u hp Q E U Z a7 hsucc q p c0 c1 c2 ab a1 ht z a2 O S h0;gi_wp2;refine hR.mono ?_
      rintro e W3 (⟨rfl,K,I⟩|⟨rfl,hJx3⟩)
      · gi_wp2
        go_roundw
        case rel=>exact⟨k+1,j++[⟨false,a,0,0⟩],by omega,by go_num,HS.o.symm,K,HK.o.trans I⟩
        case measure=>simp[intOf];omega
      · gi_wp2
        refine bodyPost_ret (results_none rfl _ _ _) rfl ?_
        obtain⟨r,hr⟩:=aa.o (k+1);rw[HS.o] at hr;exact⟨⟨_,rfl⟩,.inr ⟨_,⟨r,hr⟩,hJx3⟩⟩
    · have aL:((a:Int)==0)=false:=by rw[qN];omega
      have O:sy1 ⟨tl,(a:Int),(d:Int)⟩=[⟨false,257+lsy a,lex a,lb (lsy a)⟩,⟨true,dsy d,dex d,db (dsy d)⟩]:=by
       unfold sy1;rw[A0 (by show ¬((a:Int)=0);omega)];show[(⟨false,257+lsy (a:Int).toNat,lex (a:Int).toNat,lb (lsy (a:Int).toNat)⟩:Sy),⟨true,dsy (d:Int).toNat,dex (d:Int).toNat,db (dsy (d:Int).toNat)⟩]=_
       rw[Au,Au]
      rw[O] at hsucc q u;have p:j.length<(sys L).length:=(by simp at q;omega);have P:Y.Tab (wr.alloc (.cells #[.int .u8 tl,.int .i64 a,.int .i64 d] 139)):=nE HT.o HK.o.k (sx_no (M.o _ (.inl rfl)).1 (M.o _ (.inl rfl)).2.1 (M.o _ (.inl rfl)).2.2) (sx_no (M.o _ (.inr rfl)).1 (M.o _ (.inr rfl)).2.1 (M.o _ (.inr rfl)).2.2);have ae:=qH (ag.o tl d a _ P ⟨ax,aq⟩);obtain⟨y1,a5⟩:∃y1:Sy,(⟨false,257+lsy a,lex a,lb (lsy a)⟩:Sy)=y1:=⟨_,rfl⟩
      obtain⟨y2,T⟩:∃y2:Sy,(⟨true,dsy d,dex d,db (dsy d)⟩:Sy)=y2:=⟨_,rfl⟩
      rw[a5] at ae;rw[a5,T] at hsucc u;have af:=u y1 (by simp);have a8:=u y2 (by simp);have HS:=qH hsucc;have ak:=qH (λw H=>a9.o tl a d w H ⟨aB,ar⟩);rw[T] at ak;obtain⟨aA,HN⟩:=qh2 Z S;have ad:=qH (λW h=>HY.o j y1 W af h p);have am:=qH (λW h=>HY.o (j++[y1]) y2 W a8 h (by simp at q ⊢;omega));unfold EB at ad am;clear u hp Q E U Z a7 hsucc q p c0 c1 c2 ab a1 ht z a2 O S h0 a5 T P af a8
      gi_wp2_with (refine⟨trivial,?_⟩;gi_at_call 283;(with_reducible refine(callsIn_wide.2 ae.o).mono ?_);rintro e w1 ⟨rfl,b1⟩;obtain⟨fn,tmps,G,body,N,hR⟩:=ad.o w1 (HJ.o _ _ _ aA.o b1);have aG:=qH (HK.o.trans (Kq.of_below b1));have ay:=qH ((b1.block _ (by simp)).trans HN.o);clear b1)
      refine hR.mono ?_
      rintro e W3 (⟨rfl,K,I⟩|⟨rfl,hJx3⟩)
      · have aF:=qH K
        have ao:=qH (aG.o.trans I);have a0:=I.t _ _ _ _ _ ay.o;have P:Y.Tab W3:=nE HT.o ao.o.k (sx_no (M.o _ (.inl rfl)).1 (M.o _ (.inl rfl)).2.1 (M.o _ (.inl rfl)).2.2) (sx_no (M.o _ (.inr rfl)).1 (M.o _ (.inr rfl)).2.1 (M.o _ (.inr rfl)).2.2);have t0:W3.cell? ⟨wr.heap.size,0,none⟩=some (.int .u8 tl):=cell_of_row _ _ 0 _ _ (0,0) a0;have t1:W3.cell? ⟨wr.heap.size,1,none⟩=some (.int .i64 a):=cell_of_row _ _ 1 _ _ (0,0) a0;have t2:W3.cell? ⟨wr.heap.size,2,none⟩=some (.int .i64 d):=cell_of_row _ _ 2 _ _ (0,0) a0;have az:=qH (ak.o W3 P);clear K I a0 P N hR
        gi_wp2_with (refine⟨trivial,?_⟩;gi_at_call 284;(with_reducible refine(callsIn_wide.2 az.o).mono ?_);rintro e w4 ⟨rfl,b4⟩;obtain⟨aM,aE,aj,av,T,aw⟩:=am.o w4 (HJ.o _ _ _ aF.o b4);have ap:=qH (ao.o.trans (Kq.of_below b4));clear b4)
        refine aw.mono ?_
        rintro e W5 (⟨rfl,aD,aC⟩|⟨rfl,hJx5⟩)
        · gi_wp2
          go_roundw
          case rel=>exact⟨k+1,j++[y1]++[y2],by omega,by go_num,by rw[HS.o,qD];rfl,aD,ap.o.trans aC⟩
          case measure=>simp[intOf];omega
        · gi_wp2
          refine bodyPost_ret (results_none rfl _ _ _) rfl ?_
          obtain⟨r,hr⟩:=aa.o (k+1);rw[HS.o] at hr;exact⟨⟨_,rfl⟩,.inr ⟨_,⟨r,by rw[qD j];exact hr⟩,hJx5⟩⟩
      · gi_wp2
        refine⟨trivial,?_⟩;gi_wp2;refine⟨λ_ h=>(by cases h),?_⟩;gi_wp2;refine bodyPost_ret (results_none rfl _ _ _) rfl ?_
        obtain⟨r,hr⟩:=aa.o (k+1);rw[HS.o] at hr;exact⟨⟨_,rfl⟩,.inr ⟨_,⟨y2::r,by simpa using hr⟩,hJx3⟩⟩
  · obtain rfl:k=n:=by omega
    have F:j++[⟨false,256,0,0⟩]=sys L:=by
     rw[hp,Aj (by rw[an.o];exact qR)];rfl
    have p:j.length<(sys L).length:=(by rw[<-F];simp);obtain⟨fn,tmps,G,body,N,hR⟩:=HY.o j ⟨false,256,0,0⟩ _ (ah.o _ (by rw[<-F];simp)) Q p;rw[zc] at N;have HP:=qH F;clear hp Q E F p a1 h0;gi_wp2;refine hR.mono ?_
    rintro e W3 (⟨rfl,K,I⟩|⟨rfl,hJx3⟩)
    · gi_wp2
      go_end0;exact⟨⟨_,rfl⟩,.inl ⟨_,HP.o,K⟩⟩
    · gi_wp2
      go_end0;exact⟨⟨_,rfl⟩,.inr ⟨_,⟨[],by rw[Az];exact HP.o⟩,hJx3⟩⟩
theorem km(A:Option Addr)(n c:Nat)(w:World):Calls prog 248 #[.slice A n c] w λe w'=>
 e=.returned (.func (.func 282) #[] #[.pointer (some ⟨w.heap.size,0,none⟩)])/\w'=w.alloc (.cells #[.slice A n c] 92):=by
 go_enter func248,ntmps248;go_wp2;go_ret;exact⟨by simp,rfl⟩
def rI(L:List Tk):Prop:=∀ (m Bs R X n₁ n c:Nat) (A:Option Addr),1<=m->n<=100000->Bs<n₁->Bs≠R->Bs≠X->
 (∀g,g= 2 \/g= 3 ->g<n₁/\g≠R/\g≠X)->∀w:World,n₁<=w.heap.size->
 w.cell? ⟨Bs,0,none⟩=some (.slice A n c)->IsTks w A n L->(∀t∈L,may t=true)->(∀b o,A=some ⟨b,o,none⟩->0<n->b<n₁/\b≠R/\b≠X)->Y.Tab w->
 SeqStopsK Fence.wide m prog 282 #[.pointer (some ⟨Bs,0,none⟩)] (λy:Oy=>EB y.1) (Kq R X n₁) (λys=>ys.map (·.1)=sys L) (λpre=> ∃r,pre.map (·.1)++r=sys L) (sys L).length w
theorem iM(m Bs R X n₁ n c:Nat)(A:Option Addr)(L:List Tk)(U:1<=m)(hn:n<=100000)(z:Bs<n₁)(E:Bs≠R)(I:Bs≠X)
 (hG:∀g,g= 2 \/g= 3 ->g<n₁/\g≠R/\g≠X) (w:World) (F:n₁<=w.heap.size)
 (D:w.cell? ⟨Bs,0,none⟩=some (.slice A n c)) (u:IsTks w A n L) (k:∀t∈L,may t=true) (Z:∀b o,A=some ⟨b,o,none⟩->0<n->b<n₁/\b≠R/\b≠X) (T:Y.Tab w):
 SeqStopsK Fence.wide m prog 282 #[.pointer (some ⟨Bs,0,none⟩)] (λy:Oy=>EB y.1) (Kq R X n₁) (λO=>O.map (·.1)=sys L) (λa=> ∃r,a.map (·.1)++r=sys L) (sys L).length w:=λl J Jx W v hJ _ hY h0=>
 (lL m l Bs R X n₁ n c A L U hn z E I hG W (qK F v.size) (λl W=> ∃l':List Oy,l'.map (·.1)=l/\J l' W) (λl W=> ∃l':List Oy,l'.map (·.1)=l/\Jx l' W)
  (λs A B row hs Q M=>by obtain⟨l',e,h⟩:=hs;exact⟨l',e,hJ l' A B row h Q M⟩)
  (λa x W P h q=>by
   obtain⟨l',e,h⟩:=h;obtain⟨fn,tmps,N,body,hy,S⟩:=hY l' ⟨x,P⟩ W h (by rw[<-Ah (f:=(·.1)),e];exact q);refine⟨fn,tmps,N,body,hy,S.mono ?_⟩;rintro e2 W' (⟨d,j,K⟩|⟨d,j⟩)
   · exact .inl ⟨d,⟨_,by rw[Aw,e];rfl,j⟩,K⟩
   · exact .inr ⟨d,⟨_,by rw[Aw,e];rfl,j⟩⟩)
  ((v.cell (p:=⟨Bs,0,none⟩) (by show Bs<_;omega)).trans D) u.leng u.good k
  (λV=>by
   have G:=u.below v;rcases G.cells with g|⟨b,o,e,hb,hc⟩
   · omega
   · obtain⟨d,j,K⟩:=Z b o e V
     exact⟨b,o,e,d,j,K,λi hi=>hc i _ (by rw[List.getD,qE (by rw[u.leng];exact hi)];rfl)⟩) (T.below v qR) ⟨[],rfl,h0⟩).mono (by
  rintro e W' ⟨d,j⟩;refine⟨d,?_⟩;rcases j with⟨O,rfl,l',H,h⟩|⟨a,⟨r,M⟩,l',H,h⟩
  · exact .inl ⟨l',H,h⟩
  · exact .inr ⟨l',⟨r,by rw[H];exact M⟩,h⟩)
theorem xe(L:List Tk):rI L:=λm Bs R X n₁ n c A e o f l g h w k b i a j d=>iM m Bs R X n₁ n c A L e o f l g h w k b i a j d
end V
namespace V
open Go Go.RowKit M U
attribute [local go_sem] Oper.semAt_some
theorem nU{P:Program}{w:World}{g:Nat}{t T:TypeId}{C:Array Value}{d:TypeDesc}(h:w.heap[g]? =some (.cells C t (0,0)))(a:P.underlying T=some d)(b:d.isRow=true)(hi:(P.info? T).map (·.size)=some C.size):
 (Instr.loadAt T (.pointer (some ⟨g,0,none⟩))).run P w=.ok (.agg C) w:=by
 have e:=run_loadAt_mid (P:=P) w g 0 T C.toList d (λj v c=>by
  rw[Aa,cell_of_row _ _ j _ _ (0,0) h]
  simpa using c) a b (by simpa using hi)
 simpa using e
theorem jY{P:Program}{w:World}{g:Nat}{t T:TypeId}{C D:Array Value}(h:w.heap[g]? =some (.cells D t (0,0)))(hi:(P.info? T).map (·.size)=some C.size)(b:D.size=C.size)(a:C.all (·.oneCell')=true):
 (Instr.storeAt T (.pointer (some ⟨g,0,none⟩)) (.agg C)).run P w=.ok () (w.setRow g C):=by
 simp only[Instr.storeAt,Instr.sureAddr,Sem.run_bind,Sem.run_pure,Result.andThen];exact run_storeVar_row w g t T D C h hi b a
section
variable {F:Fence} {n:Nat} {P:Program} {ops:Array Oper} {rest:List Oper} {o:Oper} {a:Act} {w w':World} {Q:Exit->Act->World->Prop}
theorem gk(b:o.guard=none)(T:TypeId)(x:Operand)(d:o.op=.load T x)(g q:Nat)(f:a.eval x=.pointer (some ⟨g,q,none⟩))(C:Array Value)(i:(Instr.loadAt T (.pointer (some ⟨g,q,none⟩))).run P w=.ok (.agg C) w)
 (h:wpListIn F n P ops Q rest (a.put o.dst (.agg C)) w):wpListIn F n P ops Q (o::rest) a w:=by
 refine wpListIn_plain b λK j=> ?_
 unfold Oper.wpIn;refine⟨?_,?_⟩
 · simp[Oper.about,d]
 · rw[Oper.semAt_plain F _ _ (by rw[d];intro c e;cases e)]
   unfold execOp;simp only[d,f,i,Sem.run_bind,Sem.run_pure,Result.andThen_ok];exact j _ _ h
theorem fb(b:o.guard=none)(T:TypeId)(x y:Operand)(d:o.op=.store T x y)(g q:Nat)(f:a.eval x=.pointer (some ⟨g,q,none⟩))(v:Value)(i:a.eval y=v)(j:(Instr.storeAt T (.pointer (some ⟨g,q,none⟩)) v).run P w=.ok () w')
 (h:wpListIn F n P ops Q rest (a.put o.dst undef) w'):wpListIn F n P ops Q (o::rest) a w:=by
 refine wpListIn_plain b λK k=> ?_
 unfold Oper.wpIn;refine⟨?_,?_⟩
 · simp[Oper.about,d]
 · rw[Oper.semAt_plain F _ _ (by rw[d];intro c e;cases e)]
   unfold execOp;simp only[d,f,i,j,Sem.run_bind,Sem.run_pure,Result.andThen_ok];exact k _ _ h
theorem bC(b:o.guard=none)(T:TypeId)(x:Operand)(d:o.op=.load T x)(g q:Nat)(c:a.eval x=.pointer (some ⟨g,q,none⟩))(C:Array Value)(e:(Instr.loadAt T (.pointer (some ⟨g,q,none⟩))).run P w=.ok (.agg C) w)
 (h:wpList P ops Q rest (a.put o.dst (.agg C)) w):wpList P ops Q (o::rest) a w:=by
 refine wpList_plain b λK f=> ?_
 unfold Oper.wp execOp;simp only[d,c,e,Sem.run_bind,Sem.run_pure,Result.andThen_ok];exact f _ _ h
theorem aB(b:o.guard=none)(T:TypeId)(x y:Operand)(e:o.op=.store T x y)(g q:Nat)(c:a.eval x=.pointer (some ⟨g,q,none⟩))(v:Value)(d:a.eval y=v)(f:(Instr.storeAt T (.pointer (some ⟨g,q,none⟩)) v).run P w=.ok () w')
 (h:wpList P ops Q rest (a.put o.dst undef) w'):wpList P ops Q (o::rest) a w:=by
 refine wpList_plain b λK i=> ?_
 unfold Oper.wp execOp;simp only[e,c,d,f,Sem.run_bind,Sem.run_pure,Result.andThen_ok];exact i _ _ h
end
def cF(f g:Nat->Nat)(b i:Nat):Value:=if i<286 then .int .i64 (f i:Nat) else if i<316 then .int .i64 (g (i - 286):Nat) else .int .i64 (b:Nat)
def CV(f g:Nat->Nat)(b:Nat):Array Value:=((List.range 317).map (cF f g b)).toArray
theorem bK(f g:Nat->Nat)(b:Nat):(CV f g b).size=317:=by unfold CV;simp
theorem rL(f g:Nat->Nat)(b i:Nat)(h:i<317):(CV f g b)[i]? =some (cF f g b i):=by
 unfold CV;rw[Cb,Am,Bj h];rfl
theorem EM(f g:Nat->Nat)(b i:Nat):(cF f g b i).oneCell'=true:=by
 unfold cF
 split
 · rfl
 · split<;>rfl
theorem KC(f g:Nat->Nat)(b:Nat):(CV f g b).all (·.oneCell')=true:=by
 unfold CV;refine all_oneCell_toArray (λv c=> ?_);obtain⟨i,_,rfl⟩:=Ay.1 c;exact EM f g b i
def Cn(w:World)(X:Nat)(f g:Nat->Nat)(b:Nat):Prop:=w.heap[X]? =some (.cells (CV f g b) 290 (0,0))
section
variable {w w':World} {X:Nat} {f g f' g':Nat->Nat} {b b':Nat}
theorem Cn.new(w:World)(f g:Nat->Nat)(b:Nat):Cn (w.alloc (.cells (CV f g b) 290)) w.heap.size f g b:=heap_alloc_new _ _
theorem Cn.lt(h:Cn w X f g b):X<w.heap.size:=(qW.1 h).1
theorem Cn.below(h:Cn w X f g b)(c:Below w.heap.size w w'):Cn w' X f g b:=(c.block X h.lt).trans h
theorem Cn.alloc(h:Cn w X f g b)(o:Obj):Cn (w.alloc o) X f g b:=(Below.heap_alloc w o X h.lt).trans h
theorem Cn.lit(h:Cn w X f g b){i:Nat}(hi:i<286):w.cell? ⟨X,i,none⟩=some (.int .i64 (f i:Nat)):=by
 rw[cell_of_row _ _ i _ _ (0,0) h,rL f g b i (by omega)];unfold cF;rw[A7 hi]
theorem Cn.dist(h:Cn w X f g b){i:Nat}(hi:i<30):w.cell? ⟨X,286+i,none⟩=some (.int .i64 (g i:Nat)):=by
 rw[cell_of_row _ _ _ _ _ (0,0) h,rL f g b _ (by omega)];unfold cF;rw[A0 (by omega),A7 (by omega),show 286+i - 286=i by omega]
theorem Cn.bits(h:Cn w X f g b):w.cell? ⟨X,316,none⟩=some (.int .i64 (b:Nat)):=by
 rw[cell_of_row _ _ _ _ _ (0,0) h,rL f g b _ (by omega)];rfl
theorem Cn.free(h:Cn w X f g b)(i:Nat):w.frozen? ⟨X,i,none⟩=false:=by
 have c:w.heap[X]? =some (.cells (CV f g b) 290 (0,0)):=h;simp[World.frozen?,c]
theorem Cn.set(h:Cn w X f g b)(i:Nat)(v:Value)(e:∀j,j<317->cF f' g' b' j=if j=i then v else cF f g b j):Cn (w.setCell ⟨X,i,none⟩ v) X f' g' b':=by
 unfold Cn at h ⊢;rw[setCell_eq_setRow w X i (CV f g b) _ (0,0) v h,setRow_heap w X _ _ _ (0,0) h];congr 2;apply Cl;intro j;by_cases c:j<317
 · rw[rL _ _ _ j c,e j c,Ad]
   split
   · rename_i q;subst q;rw[A7 (by rw[bK];exact c),A7 rfl]
   · rename_i q;rw[A0 (λz=>q z.symm),rL f g b j c]
 · rw[AT (by rw[DB,bK];omega),AT (by rw[bK];omega)]
theorem Cn.nums(h:Cn w X f g b):av w .i64 (some ⟨X,0,none⟩) 286 (λi=>(f i:Int)):=λ_=>⟨X,0,rfl,h.lt,λi hi=>by rw[Aa];exact h.lit hi⟩
theorem Cn.numsd(h:Cn w X f g b):av w .i64 (some ⟨X,286,none⟩) 30 (λi=>(g i:Int)):=λ_=>⟨X,286,rfl,h.lt,λi hi=>h.dist hi⟩
end
theorem vG:(prog.info? 290).map (λi=>(i.zero,i.size))=some (some (.agg (CV (λ_=>0) (λ_=>0) 0)),317):=by kernel_rfl
theorem Hw(w:World):(zeroValue 290).run prog w=.ok (.agg (CV (λ_=>0) (λ_=>0) 0)) w:=(zero_of_info vG).1 w
theorem jo:(prog.info? 290).map (·.size)=some 317:=(zero_of_info vG).2
theorem Cn.load{w:World}{X:Nat}{f g:Nat->Nat}{b:Nat}(h:Cn w X f g b):(Instr.loadAt 290 (.pointer (some ⟨X,0,none⟩))).run prog w=.ok (.agg (CV f g b)) w:=
 nU h underlying290 rfl (by rw[bK];exact jo)
theorem Cn.store{w:World}{X:Nat}{f g:Nat->Nat}{b:Nat}(h:Cn w X f g b)(f' g':Nat->Nat)(b':Nat):
 (Instr.storeAt 290 (.pointer (some ⟨X,0,none⟩)) (.agg (CV f' g' b'))).run prog w=.ok () (w.setRow X (CV f' g' b')):=
 jY h (by rw[bK];exact jo) (by rw[bK,bK]) (KC _ _ _)
theorem Cn.setRow{w:World}{X:Nat}{f g:Nat->Nat}{b:Nat}(h:Cn w X f g b)(f' g':Nat->Nat)(b':Nat):Cn (w.setRow X (CV f' g' b')) X f' g' b':=setRow_heap w X _ _ _ (0,0) h
def Iu(w2:World)(X n₁:Nat)(pre:List Oy)(W:World):Prop:=
 Cn W X (cs false (pre.map (·.1))) (cs true (pre.map (·.1))) (smb (pre.map (·.1)))/\Kq X X n₁ w2 W
theorem Iu.own{u:World}{X n₁:Nat}(v:X<n₁):OwnFrom n₁ (Iu u X n₁):=λm W W' row hs c d=>by
 obtain⟨h,l⟩:=hs;refine⟨(c.block X h.lt (λe=>by have:=(d X e.symm).1;omega)).trans h,⟨l.k.grown c (λr e=> .inl (.inr (.inr (d r e).1))),λi x y z fz e=> ?_⟩⟩;have q:=l.t i x y z fz e;refine(c.block i (qW.1 q).1 (λp=> ?_)).trans q;obtain⟨_,o,j,s⟩:=d i p.symm;rw[q] at j;cases j;cases s
def AxC(n₁:Nat)(f:Oy->Nat->Act)(x:Oy)(a':Act)(W:World):Prop:=
 ∃Bx,n₁<=Bx/\W.heap[Bx]? =some (.cells #[.bool x.1.d,.int .i64 (x.1.n:Nat),.int .u32 (x.1.e:Nat),.int .u8 (x.1.b:Nat)] 335 (0,0))/\a'=f x Bx
theorem AxC.own{n₁:Nat}{f:Oy->Nat->Act}{x:Oy}{a':Act}:OwnFrom n₁ (λ(_:Unit) W=>AxC n₁ f x a' W):=λ_ W W' row hs i l=>by
 obtain⟨Bx,h,c,j⟩:=hs;refine⟨Bx,h,(i.block Bx (qW.1 c).1 (λe=> ?_)).trans c,j⟩;obtain⟨_,o,d,k⟩:=l Bx e.symm;rw[c] at d;cases d;cases k
theorem Kq.setc{X n₁:Nat}{W:World}{f g:Nat->Nat}{b:Nat}(h:Cn W X f g b)(i:Nat)(v:Value):Kq X X n₁ W (W.setCell ⟨X,i,none⟩ v):=by
 refine⟨(Kept.refl _ W).setCell ⟨X,i,none⟩ (.inl (.inl rfl)) v,λk x y z fz e=> ?_⟩;rw[Below.heap_setCell _ _ _ _ (λq=> ?_)]
 · exact e
 · have c:W.heap[X]? =some (.cells (CV f g b) 290 (0,0)):=h
   rw[q,show(⟨X,i,none⟩:Addr).block=X from rfl,c] at e;simp only[Option.some.injEq,Obj.cells.injEq] at e;exact absurd e.2.1 (by decide)
theorem gS:∀S T:List Sy,smb (S++T)=smb S+smb T
 |[],T=>by simp[smb]
 |y::S,T=>by simp only[Ac,smb,gS S T];omega
theorem I0(S:List Sy)(yn i h b:Nat)(m:yn<30):∀j,j<317->cF (cs false (S++[⟨true,yn,i,h⟩])) (cs true (S++[⟨true,yn,i,h⟩])) b j=if j=286+yn then .int .i64 ((cs true S yn+1:Nat):Int) else cF (cs false S) (cs true S) b j:=by
 intro j l;unfold cF;simp only[fI,cs];by_cases d:j<286
 · have c:¬j=286+yn:=by omega
   rw[A0 c,A7 d,A7 d];simp
 · rw[A0 d]
   by_cases e:j<316
   · rw[A7 e]
     by_cases c:j=286+yn
     · subst c
       rw[A7 rfl,show 286+yn - 286=yn by omega];simp
     · have k:¬(yn=j - 286):=λq=>c (by omega)
       rw[A0 c,A0 d,A7 e];simp[k]
   · have c:¬j=286+yn:=by omega
     rw[A0 e,A0 c,A0 d,A0 e]
theorem Ka(S:List Sy)(yn h e b:Nat)(l:yn<286):∀j,j<317->cF (cs false (S++[⟨false,yn,h,e⟩])) (cs true (S++[⟨false,yn,h,e⟩])) b j=if j=yn then .int .i64 ((cs false S yn+1:Nat):Int) else cF (cs false S) (cs true S) b j:=by
 intro j k;unfold cF;simp only[fI,cs];by_cases d:j<286
 · rw[A7 d]
   by_cases c:j=yn
   · subst c
     rw[A7 rfl];simp
   · have i:¬(yn=j):=λq=>c q.symm
     rw[A0 c,A7 d];simp[i]
 · have c:¬j=yn:=by omega
   rw[A0 d,A0 c,A0 d];simp
theorem vR(f g:Nat->Nat)(b b':Nat):∀j,j<317->cF f g b' j=if j=316 then .int .i64 (b':Nat) else cF f g b j:=by
 intro j e;unfold cF;by_cases c:j<286
 · rw[A7 c,A0 (by omega),A7 c]
 · rw[A0 c,A0 c]
   by_cases d:j<316
   · rw[A7 d,A0 (by omega),A7 d]
   · rw[A0 d,A0 d,A7 (by omega)]
theorem DT{S:List Sy}(h:∀y∈S,y.b<=13):smb S<=13*S.length:=by
 induction S with
 |nil=>simp[smb]
 |cons y S ih=>
  have d:=ih (λz c=>h z (AK _ c));have e:=h y Aq;simp only[smb,qC];omega
theorem Kq.alloc{R X n₁:Nat}(W:World)(o:Obj):Kq R X n₁ W (W.alloc o):=Kq.of_below ((Below.refl _ _).alloc qR o)
theorem pa(L:List Tk)(G:rI L)(A:Option Addr)(n c:Nat)(w:World)(hT:Y.Tab w)(h:IsTks w A n L)(hn:n<=100000)(a2:∀t∈L,may t=true):
 Calls prog 241 #[.slice A n c] w λe w'=>e=.returned (.agg (CV (cs false (sys L)) (cs true (sys L)) (smb (sys L))))/\Below w.heap.size w w':=by
 obtain⟨HH,HT,ad,a7⟩:=qh4 h hT a2 G;have hz:=Hw;have HN:=qH (show(sys L).length<=200001 from by have:=fj L;have:=h.leng;omega);clear h hT a2 G;refine(callsIn_wide (n:=5)).1 ?_
 refine callsIn_of_wp_marks func241 rfl trivial ?_ rfl;simp only[ntmps241,AE,qC,AB,Nat.reduceAdd,Nat.reduceSub,Be,Bf,Bg,Bh,Ap,Ac]
 gi_wp2_with (refine⟨trivial,?_⟩;gi_at_call 248;refine(callsIn_wide.2 (km _ _ _ _)).mono ?_;rintro e w' ⟨rfl,rfl⟩)
 have N:Below w.heap.size w (((w.alloc (.cells (CV (λ_=>0) (λ_=>0) 0) 290)).alloc (.cells (CV (λ_=>0) (λ_=>0) 0) 290)).alloc (.cells #[.slice A n c] 92)):=(((Below.refl _ w).alloc qR _).alloc (by simp) _).alloc (by simp;omega) _;have V:(((w.alloc (.cells (CV (λ_=>0) (λ_=>0) 0) 290)).alloc (.cells (CV (λ_=>0) (λ_=>0) 0) 290)).alloc (.cells #[.slice A n c] 92)).heap.size=w.heap.size+1+1+1:=(by simp);have k0:Cn (((w.alloc (.cells (CV (λ_=>0) (λ_=>0) 0) 290)).alloc (.cells (CV (λ_=>0) (λ_=>0) 0) 290)).alloc (.cells #[.slice A n c] 92)) w.heap.size (λ_=>0) (λ_=>0) 0:=((Cn.new w _ _ _).alloc _).alloc _;have k1:Cn (((w.alloc (.cells (CV (λ_=>0) (λ_=>0) 0) 290)).alloc (.cells (CV (λ_=>0) (λ_=>0) 0) 290)).alloc (.cells #[.slice A n c] 92)) (w.heap.size+1) (λ_=>0) (λ_=>0) 0:=by
  have:=(Cn.new (w.alloc (.cells (CV (λ_=>0) (λ_=>0) 0) 290)) (λ_=>0) (λ_=>0) 0).alloc (.cells #[.slice A n c] 92);rw[World.size_alloc] at this;exact this
 have gb:(((w.alloc (.cells (CV (λ_=>0) (λ_=>0) 0) 290)).alloc (.cells (CV (λ_=>0) (λ_=>0) 0) 290)).alloc (.cells #[.slice A n c] 92)).heap[w.heap.size+1+1]? =some (.cells #[.slice A n c] 92 (0,0)):=by
  have:=new_at ((w.alloc (.cells (CV (λ_=>0) (λ_=>0) 0) 290)).alloc (.cells (CV (λ_=>0) (λ_=>0) 0) 290)) (.cells #[.slice A n c] 92);rw[World.size_alloc,World.size_alloc] at this;exact this
 generalize am:(((w.alloc (.cells (CV (λ_=>0) (λ_=>0) 0) 290)).alloc (.cells (CV (λ_=>0) (λ_=>0) 0) 290)).alloc (.cells #[.slice A n c] 92))=m at N V k0 k1 gb ⊢;clear am;generalize hX:w.heap.size+1=X at V k1 gb ⊢;have ab:=qH N;have M:=HT.o.below N qR;have ah:=qB HT.o.l0;have ai:=qB HT.o.d0;simp only at ah ai;have hA:∀b o,A=some ⟨b,o,none⟩->0<n->b<m.heap.size/\b≠X/\b≠X:=λb o e hp=>by
  obtain⟨b',o',e',aw,_⟩:=HH.o.at hp;rw[e] at e';simp only[Option.some.injEq,Addr.mk.injEq,AU] at e';omega
 have K0:=qH k0
 have al:=qH (show ∀W,Kq X X m.heap.size m W->Below w.heap.size w W from λW hk=>
  ab.o.trans (hk.k.below (by omega) (λj hj=>by rcases hj with hj|hj|hj<;>omega)))
 have a9:X<m.heap.size:=(by omega);have ac:w.heap.size<m.heap.size:=(by omega);clear N k0
 refine wpIn_rangeFunc_ownH rfl (by omega) (gf:= 282) (lb:= #[.pointer (some ⟨X+1,0,none⟩)]) rfl trivial (enters_of func282 (by kernel_rfl) rfl)
  (a7.o 4 (X+1) X X m.heap.size n c A (by omega) (by omega) (by omega) (by omega) (by omega) (λg hg=>by rcases hg with rfl|rfl<;>(refine⟨?_,?_,?_⟩<;>omega)) m qR (one_cell gb) (HH.o.below ab.o) ad.o hA M)
  (λh k=>h.trans k) (λW l o o' hl h hc _=>Kq.book W l o o' hl h hc) (Below.refl _ _) (λ_=>rfl)
  (Iu m X m.heap.size) (λ_ _ _=>False) (Iu.own a9) (λ_ _ _ _ _ hs _ _=>hs)
  ⟨k1,Kq.refl _⟩
  (AxC m.heap.size (λx Bx=> {tmps:= #[.slice A n c,undef,.pointer (some ⟨w.heap.size,0,none⟩),.pointer (some ⟨X,0,none⟩),.pointer (some ⟨Bx,0,none⟩),.slice A n c,.func (.func 282) #[] #[.pointer (some ⟨X+1,0,none⟩)],sgv x.1,undef,undef,undef,undef,undef,undef,undef,undef,undef,undef,undef,undef,undef,undef,undef,undef,undef,undef,undef,undef,undef,undef,undef,undef,undef,undef,undef],defers:=[]}))
  (λx a'=>AxC.own)
  ?assign ?body ?done ?stop
 case assign=>
  rintro l s x W K hm hK;have HK:=qH (λ(a':Act) (W':World) (h1:KeepsFrom m.heap.size W W') (h2:Kq X X m.heap.size W W') (h3:Iu m X m.heap.size s W') h4=>hK a' W' h1 h2 h3 h4);have HM:=qH hm;clear hK hm k1 gb hA M;obtain⟨⟨yd,i,u,p⟩,hy⟩:=x;unfold EB sgv;gi_wp2;exact HK.o _ _ ((KeepsOthers.alloc _ _).from _) (Kq.alloc _ _) ((Iu.own a9).alloc _ HM.o) ⟨W.heap.size,HM.o.2.k.size,new_at _ _,rfl⟩
 case body=>
  rintro l' s x a' W av ⟨r,hr⟩ ⟨d,q⟩ ⟨Bx,au,hR,rfl⟩ a5;obtain⟨y,hy⟩:=x;have I:(s.map (·.1)).length<200001:=(by rw[Ah];exact Ag a5 HN.o);obtain⟨S,hS⟩:∃S,s.map (·.1)=S:=⟨_,rfl⟩
  have a1:∀W',Cn W' X (cs false (S++[y])) (cs true (S++[y])) (smb (S++[y]))->Kq X X m.heap.size m W'->Iu m X m.heap.size (s++[(⟨y,hy⟩:Oy)]) W':=λW' h1 h2=>⟨by rw[Aw,hS];exact h1,h2⟩
  have a0:=qH a1;rw[hS] at I d;have O:=hy.1.1;have T:=hy.1.2;have ag:=hy.2.1;clear a1;obtain⟨yd,i,u,p⟩:=y;simp only at hR O T ag;unfold sgv;dsimp only;have q0:W.cell? ⟨Bx,0,none⟩=some (.bool yd):=cell_of_row _ _ 0 _ _ (0,0) hR;have q1:W.cell? ⟨Bx,1,none⟩=some (.int .i64 i):=cell_of_row _ _ 1 _ _ (0,0) hR;have q3:W.cell? ⟨Bx,3,none⟩=some (.int .u8 p):=cell_of_row _ _ 3 _ _ (0,0) hR;have H2:=qH q;have a8:Bx≠X:=(by omega);have a4:smb S<=13*S.length:=DT (λy hy=>by
   rw[<-hS] at hy;obtain⟨z,_,rfl⟩:=Ay.1 hy;exact z.2.2.1)
  have ap:=d.bits;obtain⟨b,hb⟩:∃b,smb S=b:=⟨_,rfl⟩
  have af:=qH (show smb (S++[⟨yd,i,u,p⟩])=b+p by rw[gS,<-hb];simp[smb]);rw[hb] at ap a4;have aq:b<=2600013:=(by omega);have ar:=d.free 316;cases yd
  · have hn:i<286:=O rfl
    have c0:=d.lit hn;have fx:=d.free i;have E:=kS false S i;have U:=qH (d.set (f':=cs false (S++[⟨false,i,u,p⟩])) (g':=cs true (S++[⟨false,i,u,p⟩])) (b':=smb S) i _ (Ka S i u p (smb S) hn));generalize hv:cs false S i=v at c0 U E;have aj:v<=200001:=(by omega);have s0:=U.o.bits;rw[hb] at s0;have H:=qH (Kq.setc (n₁:=m.heap.size) d i (.int .i64 ((v+1:Nat):Int)));have J:=qH (Kq.setc (n₁:=m.heap.size) U.o 316 (.int .i64 ((b+p:Nat):Int)));have a3:=qH (U.o.set (f':=cs false (S++[⟨false,i,u,p⟩])) (g':=cs true (S++[⟨false,i,u,p⟩])) (b':=b+p) 316 _ (vR _ _ _ _));clear d q I hS hR O T E hv hb a4 a8 hr a5 k1 gb hA M;clear hz V;gi_wp2;exact⟨((KeepsOthers.setCell _ _ _).trans (KeepsOthers.setCell _ _ _)).from _,H.o.trans J.o,a0.o _ (by rw[af.o];exact a3.o) ((H2.o.trans H.o).trans J.o)⟩
  · have hn:i<30:=T rfl
    have c0:=d.dist hn;have fx:=d.free (286+i);have E:=kS true S i;have U:=qH (d.set (f':=cs false (S++[⟨true,i,u,p⟩])) (g':=cs true (S++[⟨true,i,u,p⟩])) (b':=smb S) (286+i) _ (I0 S i u p (smb S) hn));generalize hv:cs true S i=v at c0 U E;have aj:v<=200001:=(by omega);have s0:=U.o.bits;rw[hb] at s0;have H:=qH (Kq.setc (n₁:=m.heap.size) d (286+i) (.int .i64 ((v+1:Nat):Int)));have J:=qH (Kq.setc (n₁:=m.heap.size) U.o 316 (.int .i64 ((b+p:Nat):Int)));have a3:=qH (U.o.set (f':=cs false (S++[⟨true,i,u,p⟩])) (g':=cs true (S++[⟨true,i,u,p⟩])) (b':=b+p) 316 _ (vR _ _ _ _));clear d q I hS hR O T E hv hb a4 a8 hr a5 k1 gb hA M;clear hz V;gi_wp2;exact⟨((KeepsOthers.setCell _ _ _).trans (KeepsOthers.setCell _ _ _)).from _,H.o.trans J.o,a0.o _ (by rw[af.o];exact a3.o) ((H2.o.trans H.o).trans J.o)⟩
 case done=>
  rintro D ys W hD hS ⟨d,q⟩ hK;rw[hS] at d;have ae:=d.load;have a6:Cn W w.heap.size (λ_=>0) (λ_=>0) 0:=(q.k.block _ ac (sx_no ac (by omega) (by omega))).trans K0.o;have G:=a6.store (cs false (sys L)) (cs true (sys L)) (smb (sys L));have Z:=a6.setRow (cs false (sys L)) (cs true (sys L)) (smb (sys L));have an:=qH (show(W.setRow w.heap.size (CV (cs false (sys L)) (cs true (sys L)) (smb (sys L)))).heap[D]? =some (.deferred (some [])) from(setRow_other W _ D _ (by omega)).trans hK);have HB:=qH (below_setRow (al.o W q) w.heap.size (CV (cs false (sys L)) (cs true (sys L)) (smb (sys L))) qR);have HF:=qH Z;clear hS d q hA hK Z a6 k1 gb M;obtain⟨ak,a7⟩:=qh2 ae G;clear ae G
  gi_wp2_with (first|refine gk rfl 290 _ rfl _ _ rfl _ ak.o ?_|refine fb rfl 290 _ _ rfl _ _ rfl _ rfl a7.o ?_)
  have aa:=an.o;refine⟨by simp,.inl ⟨_,_,rfl,run_takeDeferred aa,?_⟩⟩;have ao:((W.setRow w.heap.size (CV (cs false (sys L)) (cs true (sys L)) (smb (sys L)))).putObj D (.deferred none)).heap[w.heap.size]? =some (.cells (CV (cs false (sys L)) (cs true (sys L)) (smb (sys L))) 290 (0,0)):=(World.putObj_heap_other (by omega)).trans HF.o;exact⟨_,results_cell_row rfl _ _ w.heap.size _ _ _ _ rfl ao underlying290 rfl (by rw[bK];exact jo),rfl,HB.o.trans (belowK_b (w:=w) qR _ D _ _ (by omega) aa rfl rfl)⟩
 case stop=>
  rintro D c s W _ _ h _;exact h.elim
