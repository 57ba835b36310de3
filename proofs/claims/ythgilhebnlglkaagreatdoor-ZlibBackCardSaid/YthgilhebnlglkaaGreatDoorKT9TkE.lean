import Derived.Test.YthgilhebnlglkaaGreatDoorKT9TkD
import Derived.Shelf.RegionOpen
set_option linter.all false
set_option maxHeartbeats 0
set_option maxRecDepth 1000000
open Go.Proofs.Tryz
namespace Go.Proofs.YthgilhebnlglkaaGreatDoor
namespace V.Tx
open Go Go.RowKit M
attribute [local go_sem] Oper.semAt_some
theorem new_at(w:World)(o:Obj):(w.alloc o).heap[w.heap.size]? =some o:=heap_alloc_new w o
theorem old_at{w:World}{i:Nat}{x:Obj}(o:Obj)(h:w.heap[i]? =some x):(w.alloc o).heap[i]? =some x:=(Below.heap_alloc w o i (qW.1 h).1).trans h
theorem one_cell{W:World}{T:TypeId}{g:Nat}{a:Value}(h:W.heap[g]? =some (.cells #[a] T (0,0))):W.cell? ⟨g,0,none⟩=some a:=by simp[World.cell?,h]
theorem one_free{W:World}{T:TypeId}{g:Nat}{a:Value}(h:W.heap[g]? =some (.cells #[a] T (0,0))):W.frozen? ⟨g,0,none⟩=false:=by simp[World.frozen?,h]
theorem one_set{W:World}{T:TypeId}{g:Nat}{a:Value}(h:W.heap[g]? =some (.cells #[a] T (0,0)))(b:Value):(W.setCell ⟨g,0,none⟩ b).heap[g]? =some (.cells #[b] T (0,0)):=by
 rw[setCell_eq_setRow W g 0 #[a] T (0,0) b h];exact setRow_heap W g #[a] #[b] T (0,0) h
theorem mw{W W':World}(h:Below W.heap.size W W'):KeepsOthers W W':=⟨h.size,λk o a _=>(h.block k (qW.1 a).1).trans a⟩
def toks(T:Nat->Tk){n:Nat}(pre:List (Ix n)):List Tk:=pre.map λx=>T x.1
theorem sn(T:Nat->Tk){n:Nat}(a:List (Ix n))(x:Ix n):toks T (a++[x])=toks T a++[T x.1]:=by simp[toks]
theorem lH(T:Nat->Tk){n:Nat}(a:List (Ix n)):(toks T a).length=a.length:=by simp[toks]
theorem sk{L:List Tk}{n j:Nat}{a:List (Ix n)}(d:L.length=n)(b:j<=n)(h:a.map (·.1)=List.range j):toks (λi=>L.getD i default) a=L.take j:=by
 have e:toks (λi=>L.getD i default) a=(List.range j).map λi=>L.getD i default:=by rw[<-h,BC];rfl
 rw[e];apply D8;intro i;rw[Am,AD];by_cases c:i<j
 · rw[Bj c,A7 c]
   show some (L.getD i default)=_
   rw[List.getD,qE (by omega)];rfl
 · rw[A0 c,BW (by simp;omega)];rfl
def MidS(w2:World)(n₀ n₁:Nat)(T:Nat->Tk)(n:Nat)(pre:List (Ix n))(W:World):Prop:=
 W.heap[n₀]? =some (.cells #[.int .i64 (szs (toks T pre):Nat)] 3 (0,0))/\Kept (Sx n₀ n₀ n₁) w2 W
theorem MidS.own{h:World}{a n₁:Nat}{T:Nat->Tk}{n:Nat}(k:a<n₁):OwnFrom n₁ (MidS h a n₁ T n):=λg W j row hs d f=>by
 obtain⟨c,i⟩:=hs;have b:=(qW.1 c).1;exact⟨(d.block a b (λe=>by have:=(f a e.symm).1;omega)).trans c,i.grown d (λr e=> .inl (.inr (.inr (f r e).1)))⟩
def AxS(n₁:Nat)(T:Nat->Tk){n:Nat}(f:Ix n->Nat->Act)(x:Ix n)(a':Act)(W:World):Prop:=
 ∃Bx,n₁<=Bx/\R3 W 139 Bx (.int .u8 (T x.1).l) (.int .i64 (T x.1).n) (.int .i64 (T x.1).d)/\a'=f x Bx
theorem AxS.own{n₁:Nat}{T:Nat->Tk}{n:Nat}{f:Ix n->Nat->Act}{x:Ix n}{a':Act}:OwnFrom n₁ (λ(_:Unit) W=>AxS n₁ T f x a' W):=λ_ W l row hs g i=>by
 obtain⟨Bx,d,a,h⟩:=hs;refine⟨Bx,d,a.of_block (g.block Bx a.lt (λe=> ?_)),h⟩;obtain⟨_,o,b,j⟩:=i Bx e.symm;obtain⟨k,c,_⟩:=a;rw[c] at b;cases b;cases j
theorem size_any(A:Option Addr)(n c:Nat)(L:List Tk)(w:World)(h:IsTks w A n L)(hn:n<=1000000):
 Calls prog 195 #[.slice A n c] w λe w'=>e=.returned (.int .i64 (szs L:Nat))/\Below w.heap.size w w':=by
 have V:=h.leng;obtain⟨T,hT⟩:∃T:Nat->Tk,(λi=>L.getD i default)=T:=⟨_,rfl⟩
 have C:=λ(j:Nat) (m:List (Ix n)) (hj:j<=n) (P:m.map (·.1)=List.range j)=>sk V hj P
 rw[hT] at C;have a3:=qH C;have HL:=qH (show L.take n=L from Aj (by omega));have HH:=qH (show 0<n->∃b o,A=some ⟨b,o,none⟩/\b<w.heap.size/\∀i,i<n->w.cell? ⟨b,o+i*3,none⟩=some (.int .u8 (T i).l)/\w.cell? ⟨b,o+i*3+1,none⟩=some (.int .i64 (T i).n)/\w.cell? ⟨b,o+i*3+2,none⟩=some (.int .i64 (T i).d) from λP=>by
  obtain⟨b,o,e1,R,U⟩:=h.at P;exact⟨b,o,e1,R,λi hi=>by rw[<-hT];exact U i hi⟩)
 clear h C hT V;refine(callsIn_wide (n:=5)).1 ?_
 refine callsIn_of_wp_marks func195 rfl trivial ?_ rfl;simp only[ntmps195,AE,qC,AB,Nat.reduceAdd,Nat.reduceSub,Be,Bf,Bg,Bh,Ap,Ac]
 gi_wp2_with (refine⟨trivial,?_⟩;gi_at_call 231;refine(callsIn_wide.2 (wQ _ _ _ _)).mono ?_;rintro e w' ⟨rfl,rfl⟩)
 have a5:((w.alloc (.cells #[.int .i64 0] 3)).alloc (.cells #[.slice A n c] 92)).heap.size=w.heap.size+1+1:=(by simp);have u:Below w.heap.size w ((w.alloc (.cells #[.int .i64 0] 3)).alloc (.cells #[.slice A n c] 92)):=((Below.refl _ w).alloc qR _).alloc (by simp) _;have g0:((w.alloc (.cells #[.int .i64 0] 3)).alloc (.cells #[.slice A n c] 92)).heap[w.heap.size]? =some (.cells #[.int .i64 0] 3 (0,0)):=old_at _ (new_at _ _);have g1:((w.alloc (.cells #[.int .i64 0] 3)).alloc (.cells #[.slice A n c] 92)).heap[w.heap.size+1]? =some (.cells #[.slice A n c] 92 (0,0)):=by
  have:=new_at (w.alloc (.cells #[.int .i64 0] 3)) (.cells #[.slice A n c] 92);rw[World.size_alloc] at this;exact this
 generalize a0:(w.alloc (.cells #[.int .i64 0] 3)).alloc (.cells #[.slice A n c] 92)=s at a5 u g0 g1 ⊢;clear a0;have hA:0<n->∃b o,A=some ⟨b,o,none⟩/\b<s.heap.size/\b≠w.heap.size/\b≠w.heap.size/\∀i,i<n->s.cell? ⟨b,o+i*3,none⟩=some (.int .u8 (T i).l)/\s.cell? ⟨b,o+i*3+1,none⟩=some (.int .i64 (T i).n)/\s.cell? ⟨b,o+i*3+2,none⟩=some (.int .i64 (T i).d):=λP=>by
  obtain⟨b,o,e1,R,U⟩:=HH.o P;exact⟨b,o,e1,by omega,by omega,by omega,λi hi=>⟨(u.cell (p:=⟨b,o+i*3,none⟩) R).trans (U i hi).1,(u.cell (p:=⟨b,o+i*3+1,none⟩) R).trans (U i hi).2.1,(u.cell (p:=⟨b,o+i*3+2,none⟩) R).trans (U i hi).2.2⟩⟩
 have a1:=qH u;have N:w.heap.size<s.heap.size:=by omega
 have a2:=qH (show ∀W,Kept (Sx w.heap.size w.heap.size s.heap.size) s W->Below w.heap.size w W from λW hk=>
  a1.o.trans (hk.below (by omega) (λj hj=>by rcases hj with hj|hj|hj<;>omega)))
 clear u HH
 refine wpIn_rangeFunc_ownH rfl (by omega) (gf:= 268) (lb:= #[.pointer (some ⟨w.heap.size+1,0,none⟩)]) rfl trivial (enters_of func268 (by kernel_rfl) rfl)
  (pT 4 (w.heap.size+1) w.heap.size w.heap.size s.heap.size n c A T (by omega) (by omega) s qR (by omega) (by omega) (by omega) (one_cell g1) hA)
  (λh k=>keptSx_t h k) (λW l o o' V h _ _=>keptSx_b W l o o' V h) (Below.refl _ _) (λ_=>rfl)
  (MidS s w.heap.size s.heap.size T n) (λ_ _ _=>False) (MidS.own N) (λ_ _ _ _ _ hs _ _=>hs)
  ⟨g0,Kept.refl _ _⟩
  (AxS s.heap.size T (λx Bx=> {tmps:= #[.slice A n c,undef,.int .i64 0,.pointer (some ⟨w.heap.size,0,none⟩),.pointer (some ⟨Bx,0,none⟩),.slice A n c,.func (.func 268) #[] #[.pointer (some ⟨w.heap.size+1,0,none⟩)],.agg #[.int .u8 (T x.1).l,.int .i64 (T x.1).n,.int .i64 (T x.1).d],undef,undef,undef,undef,undef],defers:=[]}))
  (λx a'=>AxS.own)
  ?assign ?body ?done ?stop
 case assign=>
  rintro l m x W K ⟨a,q⟩ J;unfold KI;have HK:=qH (λ(a':Act) (W':World) (X:KeepsFrom s.heap.size W W') (h2:Kept (Sx w.heap.size w.heap.size s.heap.size) W W') (h3:MidS s w.heap.size s.heap.size T n m W') h4=>J a' W' X h2 h3 h4);clear J;obtain⟨t,E⟩:∃t,T x.1=t:=⟨_,rfl⟩
  have Y:=qH E;rw[E];clear E;obtain⟨tl,tn,td⟩:=t;obtain⟨Z,H2⟩:=qh2 a q;clear a q;gi_wp2;exact HK.o _ _ ((KeepsOthers.alloc _ _).from _) ((Kept.refl _ _).alloc _) ⟨old_at _ Z.o,H2.o.alloc _⟩ ⟨W.heap.size,H2.o.size,by rw[Y.o];exact R3.new _ _ _ _ _,by dsimp only;rw[Y.o]⟩
 case body=>
  rintro l' m x a' W a8 ⟨r,hr⟩ ⟨a,q⟩ ⟨Bx,aa,H,rfl⟩ ab;obtain⟨t,E⟩:∃t,T x.1=t:=⟨_,rfl⟩
  have Y:=qH E;dsimp only;rw[E] at H ⊢;clear E;obtain⟨tl,tn,td⟩:=t;simp only at H ⊢;have c0:=H.at0;have c1:=H.at1;have c2:=H.at2;have s0:=one_cell a;have I:=qf tl tn td;have M:=sn T m x;have F:=szs_le (toks T m);rw[lH] at F;obtain⟨S,B⟩:∃S,szs (toks T m)=S:=⟨_,rfl⟩
  obtain⟨z,G⟩:∃z,szo ⟨tl,tn,td⟩=z:=⟨_,rfl⟩
  have v:=At ⟨tl,tn,td⟩;rw[B] at F s0 a;rw[G] at v I;have HE:=qH (show szs (toks T (m++[x]))=S+z by rw[M,szs_append,Y.o,B];simp[szs,G]);have a9:IntKind.i64.wrap ((S:Int)+(z:Int))=((S+z:Nat):Int):=(by rw[IntWalk.i64_in _ ⟨by omega,by omega⟩];omega);have HS:=qH I;clear I M B G F v;obtain⟨Z,H2⟩:=qh2 a q;clear a q H hA hr;have a7: prog.follows .mixedOrders=true:=(by kernel_rfl);have HX:=qH (show ∀w1 w',w1.heap=W.heap->Below w1.heap.size w1 w'->w'.heap[w.heap.size]? =some (.cells #[.int .i64 (S:Nat)] 3 (0,0)) from λw1 w' X h2=>by
   have O:=(qW.1 Z.o).1;rw[h2.block w.heap.size (by rw[X];exact O),X];exact Z.o)
  gi_wp2
  gi_region_with_o (refine⟨trivial,?_⟩;gi_at_call 232;refine(CallsIn.inRound l' (callsIn_wide.2 (HS.o _))).mono ?_;rintro e w' ⟨rfl,y⟩;have q1:=HX.o _ _ (by rfl) y;have q2:=one_cell q1;have q3:=one_free q1;have HC:=qH ((Kept.refl NoB W).drew.trans (Kept.of_below y) (λ_ g=>g.elim));have a6:=qH ((KeepsOthers.drew W).trans (mw y));have Q1:=qH q1;clear y q1)
  all_goals gi_wp2
  all_goals exact⟨(a6.o.trans (KeepsOthers.setCell _ _ _)).from _,((HC.o.none _).setCell ⟨w.heap.size,0,none⟩ (.inl (.inl rfl)) _),by rw[HE.o];exact one_set Q1.o _,keptSx_t H2.o ((HC.o.none _).setCell ⟨w.heap.size,0,none⟩ (.inl (.inl rfl)) _)⟩
 case done=>
  rintro D ys W hD I ⟨a,q⟩ J;have hz:szs (toks T ys)=szs L:=(by rw[a3.o n ys qR I,HL.o]);rw[hz] at a;have s0:=one_cell a;have a4:=qH J;have HB:=qH (a2.o W q);clear I a q hA J hz;gi_wp2;have Q:=a4.o;refine⟨by simp,.inl ⟨_,_,rfl,run_takeDeferred Q,?_⟩⟩;exact⟨_,results_tmp rfl _ _ _,rfl,HB.o.trans (belowK_b (w:=w) qR _ D _ _ (by omega) Q rfl rfl)⟩
 case stop=>
  rintro D c m W _ _ h _;exact h.elim
