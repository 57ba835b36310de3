import Derived.Test.YthgilhebnlglkaaGreatDoorKMT9Tok
import Derived.RangeFuncNested
import Derived.Shelf.Abstract
import Derived.OwnWalkIn
import Derived.TacticsInMore
import Derived.LoopNIn
import Derived.LoopIn
set_option linter.all false
set_option maxHeartbeats 0
set_option maxRecDepth 1000000
open Go.Proofs.Tryz
namespace Go.Proofs.YthgilhebnlglkaaGreatDoor
namespace V.Tx
open Go Go.RowKit M
attribute [local go_sem] Oper.semAt_some
abbrev Ix(n:Nat):={i:Nat//i<n}
def KI(T:Nat->Tk){n:Nat}(x:Ix n):Array Value:= #[.agg #[.int .u8 (T x.1).l,.int .i64 (T x.1).n,.int .i64 (T x.1).d]]
def Sx(R M n₁:Nat):Nat->Prop:=λj=>j=R\/j=M\/n₁<=j
theorem keptSx_t{R M n₁:Nat}{A B C:World}(h:Kept (Sx R M n₁) A B)(k:Kept (Sx R M n₁) B C):Kept (Sx R M n₁) A C:=h.trans k λj a=> .inl a
theorem keptSx_b{R M n₁:Nat}(W:World)(l:Nat)(o a:Obj)(b:n₁<=l)(h:W.heap[l]? =some o):Kept (Sx R M n₁) W (W.putObj l a):=
 (Kept.refl _ W).grown (grownBy_putObj' W l a) (λk e=>by cases e;exact .inl (.inr (.inr b)))
theorem sx_no{R M n₁ j:Nat}(c:j<n₁)(a:j≠R)(b:j≠M):¬Sx R M n₁ j:=λg=>by
 rcases g with g|g|g
 · exact a g
 · exact b g
 · omega
theorem wR(m l Bs R M n₁ n c:Nat)(A:Option Addr)(T:Nat->Tk)(hm:1<=m)(hn:n<=1048576)(a0:Bs<n₁)(a1:Bs≠R)(a3:Bs≠M)(h:World)(a2:n₁<=h.heap.size)(J Jx:List (Ix n)->World->Prop)(hJ:AbidesFrom h.heap.size J)
 (hY:∀a x W,J a W->a.length<n->YieldAt Fence.wide (m - 1) prog l (KI T x) W λe z=>
  (e=.returned (.bool true)/\J (a++[x]) z/\Kept (Sx R M n₁) W z)\/(e=.returned (.bool false)/\Jx (a++[x]) z))
 (H:h.cell? ⟨Bs,0,none⟩=some (.slice A n c)) (Q:0<n->∃b o,A=some ⟨b,o,none⟩/\b<n₁/\b≠R/\b≠M/\∀i,i<n->h.cell? ⟨b,o+i*3,none⟩=some (.int .u8 (T i).l)/\h.cell? ⟨b,o+i*3+1,none⟩=some (.int .i64 (T i).n)/\h.cell? ⟨b,o+i*3+2,none⟩=some (.int .i64 (T i).d)) (h0:J [] h):
 CallsIn Fence.wide m prog 268 #[.func (.yield l) #[] #[],.pointer (some ⟨Bs,0,none⟩)] h λe z=>(∃v,e=.returned v)/\
  ((∃X:List (Ix n),X.map (·.1)=List.range n/\J X z)\/(∃a:List (Ix n),(∃j,j<=n/\a.map (·.1)=List.range j)/\Jx a z)):=by
 refine callsIn_of_wp func268 rfl trivial ?_ rfl;simp only[ntmps268,AE,qC,AB,Nat.reduceAdd,Nat.reduceSub,Be,Bf,Bg,Bh,Ap,Ac];gi_wp2
 gi_loopw [7] (λi wr=> ∃ (k:Nat) (a:List (Ix n)),k<=n/\i=.int .i64 k/\a.map (·.1)=List.range k/\J a wr/\Kept (Sx R M n₁) h wr)
  (λi _=>n - (intOf i).toNat)
 case atStart=>exact⟨0,[],qZ,rfl,rfl,h0,Kept.refl _ _⟩
 case round=>
  obtain⟨k,a,U,rfl,C,y,g⟩:=hrel;have q:a.length=k:=by
   have:=congrArg List.length C
   rwa [Ah,Dt] at this
  by_cases p:k<n
  · have L:a.length<n:=by omega
    obtain⟨b,o,rfl,s,u,w,D⟩:=Q (by omega);obtain⟨c0,c1,Z⟩:=D k p;have Y:wr.cell? ⟨b,o+k*3,none⟩=some (.int .u8 (T k).l):=g.cell c0 (sx_no s u w);have P:wr.cell? ⟨b,o+k*3+1,none⟩=some (.int .i64 (T k).n):=g.cell c1 (sx_no s u w);have d2:wr.cell? ⟨b,o+k*3+2,none⟩=some (.int .i64 (T k).d):=g.cell Z (sx_no s u w);obtain⟨t,I⟩:∃t,T k=t:=⟨_,rfl⟩
    have a4:k<9223372036854775807:=(by omega);rw[I] at Y P d2;have S:=I;obtain⟨tl,tn,V⟩:=t;simp only at Y P d2;have E:Kept (Sx R M n₁) wr (wr.alloc (.cells #[.int .u8 tl,.int .i64 tn,.int .i64 V] 139)):=(Kept.refl _ _).alloc _;have B:J a (wr.alloc (.cells #[.int .u8 tl,.int .i64 tn,.int .i64 V] 139)):=hJ a wr _ none y ⟨rfl,rfl,rfl,by simp,λk U _=>Below.heap_alloc _ _ _ U⟩ (λr e=>by cases e);obtain⟨fn,tmps,F,body,N,hR⟩:=hY a ⟨k,p⟩ _ B L;unfold KI at N;dsimp only at N;rw[S] at N;have HK:=qH (keptSx_t g E);have G:=qH C;clear g Q D H C q c0 c1 Z y h0 I hY hJ S B E;gi_wp2;refine hR.mono ?_
    rintro e W3 (⟨rfl,K,O⟩|⟨rfl,hJx3⟩)
    · gi_wp2
      go_roundw
      case rel=>exact⟨k+1,a++[⟨k,p⟩],by omega,by go_num,by rw[Aw,G.o,Bi];rfl,K,keptSx_t HK.o O⟩
      case measure=>simp[intOf];omega
    · gi_wp2
      refine bodyPost_ret (results_none rfl _ _ _) rfl ?_
      exact⟨⟨_,rfl⟩,.inr ⟨a++[⟨k,p⟩],⟨k+1,by omega,by rw[Aw,G.o,Bi];rfl⟩,hJx3⟩⟩
  · obtain rfl:k=n:=by omega
    have G:=qH C;clear C q;gi_wp2;go_end0;exact⟨⟨_,rfl⟩,.inl ⟨a,G.o,y⟩⟩
theorem wQ(A:Option Addr)(n c:Nat)(w:World):
 Calls prog 231 #[.slice A n c] w λe w'=>e=.returned (.func (.func 268) #[] #[.pointer (some ⟨w.heap.size,0,none⟩)])/\w'=w.alloc (.cells #[.slice A n c] 92):=by
 go_enter func231,ntmps231;go_wp2;go_ret;exact⟨rfl,rfl⟩
theorem pT(m Bs R M n₁ n c:Nat)(A:Option Addr)(T:Nat->Tk)(y:1<=m)(I:n<=1048576)(w:World)(q:n₁<=w.heap.size)(e:Bs<n₁)(k:Bs≠R)(r:Bs≠M)
 (h:w.cell? ⟨Bs,0,none⟩=some (.slice A n c)) (x:0<n->∃b o,A=some ⟨b,o,none⟩/\b<n₁/\b≠R/\b≠M/\∀i,i<n->w.cell? ⟨b,o+i*3,none⟩=some (.int .u8 (T i).l)/\w.cell? ⟨b,o+i*3+1,none⟩=some (.int .i64 (T i).n)/\w.cell? ⟨b,o+i*3+2,none⟩=some (.int .i64 (T i).d)):
 SeqStopsK Fence.wide m prog 268 #[.pointer (some ⟨Bs,0,none⟩)] (KI T (n:=n)) (Kept (Sx R M n₁)) (λC=>C.map (·.1)=List.range n) (λg=> ∃j,j<=n/\g.map (·.1)=List.range j) n w:=λl J E W a G _ F K=>by
 have u:0<n->∃b o,A=some ⟨b,o,none⟩/\b<n₁/\b≠R/\b≠M/\∀i,i<n->W.cell? ⟨b,o+i*3,none⟩=some (.int .u8 (T i).l)/\W.cell? ⟨b,o+i*3+1,none⟩=some (.int .i64 (T i).n)/\W.cell? ⟨b,o+i*3+2,none⟩=some (.int .i64 (T i).d):=λz=>by
  obtain⟨b,o,B,D,v,H,s⟩:=x z;have t:b<w.heap.size:=(by omega);exact⟨b,o,B,D,v,H,λi hi=>⟨(a.cell (p:=⟨b,o+i*3,none⟩) t).trans (s i hi).1,(a.cell (p:=⟨b,o+i*3+1,none⟩) t).trans (s i hi).2.1,(a.cell (p:=⟨b,o+i*3+2,none⟩) t).trans (s i hi).2.2⟩⟩
 exact wR m l Bs R M n₁ n c A T y I e k r W (qK q a.size) J E G F ((a.cell (p:=⟨Bs,0,none⟩) (by show Bs<_;omega)).trans h) u K
