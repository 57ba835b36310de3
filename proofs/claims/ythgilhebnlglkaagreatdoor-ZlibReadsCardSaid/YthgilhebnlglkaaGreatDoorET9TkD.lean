import Derived.Test.YthgilhebnlglkaaGreatDoorEMT9Tok
import Derived.RangeFuncNested
import Derived.Shelf.Abstract
import Derived.OwnWalkIn
import Derived.TacticsInMore
import Derived.LoopNIn
import Derived.LoopIn
set_option linter.all false
set_option maxHeartbeats 8000000
set_option maxRecDepth 1000000
open Go.Proofs.Tryz
namespace Go.Proofs.YthgilhebnlglkaaGreatDoor.V.Tx
open Go Go.RowKit M
attribute [local go_sem] Oper.semAt_some
abbrev Ix(n:Nat):={i:Nat//i<n}
def zjG(T:Nat->Tk){n:Nat}(x:Ix n):Array Value:= #[.agg #[.int .u8 (T x.1).l,.int .i64 (T x.1).n,.int .i64 (T x.1).d]]
def Sx(R M n₁:Nat):Nat->Prop:=λj=>j=R\/j=M\/n₁<=j
theorem keptSx_t{R M n₁:Nat}{A B C:World}(h:Kept (Sx R M n₁) A B)(k:Kept (Sx R M n₁) B C):Kept (Sx R M n₁) A C:=h.trans k λj hj=> .inl hj
theorem keptSx_b{R M n₁:Nat}(W:World)(l:Nat)(o o':Obj)(hl:n₁<=l)(h:W.heap[l]? =some o):Kept (Sx R M n₁) W (W.putObj l o'):=
 (Kept.refl _ W).grown (grownBy_putObj' W l o') (λk e=>by cases e;exact .inl (.inr (.inr hl)))
theorem sx_no{R M n₁ j:Nat}(h1:j<n₁)(h2:j≠R)(h3:j≠M):¬Sx R M n₁ j:=λg=>by
 rcases g with g|g|g
 · exact h2 g
 · exact h3 g
 · omega
theorem zcI(m l Bs R M n₁ n c:Nat)(A:Option Addr)(T:Nat->Tk)(hm:1<=m)(hn:n<=1048576)(hB1:Bs<n₁)(hB2:Bs≠R)(hB3:Bs≠M)(W0:World)(hn1:n₁<=W0.heap.size)(J Jx:List (Ix n)->World->Prop)(hJ:AbidesFrom W0.heap.size J)
 (hY:∀pre x W,J pre W->pre.length<n->YieldAt Fence.wide (m - 1) prog l (zjG T x) W λe W'=>
  (e=.returned (.bool true)/\J (pre++[x]) W'/\Kept (Sx R M n₁) W W')\/(e=.returned (.bool false)/\Jx (pre++[x]) W'))
 (hBs:W0.cell? ⟨Bs,0,none⟩=some (.slice A n c)) (hc:0<n->∃b o,A=some ⟨b,o,none⟩/\b<n₁/\b≠R/\b≠M/\∀i,i<n->W0.cell? ⟨b,o+i*3,none⟩=some (.int .u8 (T i).l)/\W0.cell? ⟨b,o+i*3+1,none⟩=some (.int .i64 (T i).n)/\W0.cell? ⟨b,o+i*3+2,none⟩=some (.int .i64 (T i).d)) (h0:J [] W0):
 CallsIn Fence.wide m prog 268 #[.func (.yield l) #[] #[],.pointer (some ⟨Bs,0,none⟩)] W0 λe W'=>(∃v,e=.returned v)/\
  ((∃ys:List (Ix n),ys.map (·.1)=List.range n/\J ys W')\/(∃pre:List (Ix n),(∃j,j<=n/\pre.map (·.1)=List.range j)/\Jx pre W')):=by
 refine callsIn_of_wp func268 rfl trivial ?_ rfl;simp only[ntmps268,List.size_toArray,qC,List.length_nil,Nat.reduceAdd,Nat.reduceSub,Array.replicate_succ,Array.replicate_zero,List.push_toArray,List.append_toArray,List.nil_append,List.cons_append];gi_wp2
 gi_loopw [7] (λi wr=> ∃ (k:Nat) (pre:List (Ix n)),k<=n/\i=.int .i64 k/\pre.map (·.1)=List.range k/\J pre wr/\Kept (Sx R M n₁) W0 wr)
  (λi _=>n - (intOf i).toNat)
 case atStart=>exact⟨0,[],qZ,rfl,rfl,h0,Kept.refl _ _⟩
 case round=>
  obtain⟨k,pre,hk,rfl,hp,hJs,hkp⟩:=hrel;have hlen:pre.length=k:=by
   have:=congrArg List.length hp
   rwa [List.length_map,List.length_range] at this
  by_cases hlt:k<n
  · have hpl:pre.length<n:=by omega
    obtain⟨b,o,rfl,hb1,hb2,hb3,hcs⟩:=hc (by omega);obtain⟨c0,c1,c2⟩:=hcs k hlt;have d0:wr.cell? ⟨b,o+k*3,none⟩=some (.int .u8 (T k).l):=hkp.cell c0 (sx_no hb1 hb2 hb3);have d1:wr.cell? ⟨b,o+k*3+1,none⟩=some (.int .i64 (T k).n):=hkp.cell c1 (sx_no hb1 hb2 hb3);have d2:wr.cell? ⟨b,o+k*3+2,none⟩=some (.int .i64 (T k).d):=hkp.cell c2 (sx_no hb1 hb2 hb3);obtain⟨t,ht⟩:∃t,T k=t:=⟨_,rfl⟩
    have hk2:k<9223372036854775807:=(by omega);rw[ht] at d0 d1 d2;have hT:=ht;obtain⟨tl,tn,td⟩:=t;simp only at d0 d1 d2;have hka:Kept (Sx R M n₁) wr (wr.alloc (.cells #[.int .u8 tl,.int .i64 tn,.int .i64 td] 139)):=(Kept.refl _ _).alloc _;have hJa:J pre (wr.alloc (.cells #[.int .u8 tl,.int .i64 tn,.int .i64 td] 139)):=hJ pre wr _ none hJs ⟨rfl,rfl,rfl,by simp,λk hk _=>Below.heap_alloc _ _ _ hk⟩ (λr e=>by cases e);obtain⟨fn,tmps,assign,body,hy,hR⟩:=hY pre ⟨k,hlt⟩ _ hJa hpl;unfold zjG at hy;dsimp only at hy;rw[hT] at hy;have HK:=qH (keptSx_t hkp hka);have HP:=qH hp;clear hkp hc hcs hBs hp hlen c0 c1 c2 hJs h0 ht hY hJ hT hJa hka;gi_wp2;refine hR.mono ?_
    rintro e W3 (⟨rfl,hJ3,hk3⟩|⟨rfl,hJx3⟩)
    · gi_wp2
      go_roundw
      case rel=>exact⟨k+1,pre++[⟨k,hlt⟩],by omega,by go_num,by rw[List.map_append,HP.o,List.range_succ];rfl,hJ3,keptSx_t HK.o hk3⟩
      case measure=>simp[intOf];omega
    · gi_wp2
      refine bodyPost_ret (results_none rfl _ _ _) rfl ?_
      exact⟨⟨_,rfl⟩,.inr ⟨pre++[⟨k,hlt⟩],⟨k+1,by omega,by rw[List.map_append,HP.o,List.range_succ];rfl⟩,hJx3⟩⟩
  · obtain rfl:k=n:=by omega
    have HP:=qH hp;clear hp hlen;gi_wp2;go_end0;exact⟨⟨_,rfl⟩,.inl ⟨pre,HP.o,hJs⟩⟩
theorem zcH(A:Option Addr)(n c:Nat)(w:World):
 Calls prog 231 #[.slice A n c] w λe w'=>e=.returned (.func (.func 268) #[] #[.pointer (some ⟨w.heap.size,0,none⟩)])/\w'=w.alloc (.cells #[.slice A n c] 92):=by
 go_enter func231,ntmps231;go_wp2;go_ret;exact⟨rfl,rfl⟩
theorem z8s(m Bs R M n₁ n c:Nat)(A:Option Addr)(T:Nat->Tk)(hm:1<=m)(hn:n<=1048576)(w:World)(hn1:n₁<=w.heap.size)(hB1:Bs<n₁)(hB2:Bs≠R)(hB3:Bs≠M)
 (hBs:w.cell? ⟨Bs,0,none⟩=some (.slice A n c)) (hc:0<n->∃b o,A=some ⟨b,o,none⟩/\b<n₁/\b≠R/\b≠M/\∀i,i<n->w.cell? ⟨b,o+i*3,none⟩=some (.int .u8 (T i).l)/\w.cell? ⟨b,o+i*3+1,none⟩=some (.int .i64 (T i).n)/\w.cell? ⟨b,o+i*3+2,none⟩=some (.int .i64 (T i).d)):
 SeqStopsK Fence.wide m prog 268 #[.pointer (some ⟨Bs,0,none⟩)] (zjG T (n:=n)) (Kept (Sx R M n₁)) (λys=>ys.map (·.1)=List.range n) (λpre=> ∃j,j<=n/\pre.map (·.1)=List.range j) n w:=λl J Jx W hW hJ _ hY h0=>by
 have hc':0<n->∃b o,A=some ⟨b,o,none⟩/\b<n₁/\b≠R/\b≠M/\∀i,i<n->W.cell? ⟨b,o+i*3,none⟩=some (.int .u8 (T i).l)/\W.cell? ⟨b,o+i*3+1,none⟩=some (.int .i64 (T i).n)/\W.cell? ⟨b,o+i*3+2,none⟩=some (.int .i64 (T i).d):=λhp=>by
  obtain⟨b,o,e1,e2,e3,e4,e5⟩:=hc hp;have hb:b<w.heap.size:=(by omega);exact⟨b,o,e1,e2,e3,e4,λi hi=>⟨(hW.cell (p:=⟨b,o+i*3,none⟩) hb).trans (e5 i hi).1,(hW.cell (p:=⟨b,o+i*3+1,none⟩) hb).trans (e5 i hi).2.1,(hW.cell (p:=⟨b,o+i*3+2,none⟩) hb).trans (e5 i hi).2.2⟩⟩
 exact zcI m l Bs R M n₁ n c A T hm hn hB1 hB2 hB3 W (qK hn1 hW.size) J Jx hJ hY ((hW.cell (p:=⟨Bs,0,none⟩) (by show Bs<_;omega)).trans hBs) hc' h0
