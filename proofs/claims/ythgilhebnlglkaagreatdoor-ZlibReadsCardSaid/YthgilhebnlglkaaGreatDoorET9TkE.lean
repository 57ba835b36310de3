import Derived.Test.YthgilhebnlglkaaGreatDoorET9TkD
import Derived.Shelf.RegionOpen
set_option linter.all false
set_option maxHeartbeats 8000000
set_option maxRecDepth 1000000
open Go.Proofs.Tryz
namespace Go.Proofs.YthgilhebnlglkaaGreatDoor.V.Tx
open Go Go.RowKit M
attribute [local go_sem] Oper.semAt_some
theorem new_at(w:World)(o:Obj):(w.alloc o).heap[w.heap.size]? =some o:=heap_alloc_new w o
theorem old_at{w:World}{i:Nat}{x:Obj}(o:Obj)(h:w.heap[i]? =some x):(w.alloc o).heap[i]? =some x:=(Below.heap_alloc w o i (qW.1 h).1).trans h
theorem one_cell{W:World}{T:TypeId}{g:Nat}{a:Value}(h:W.heap[g]? =some (.cells #[a] T (0,0))):W.cell? ⟨g,0,none⟩=some a:=by simp[World.cell?,h]
theorem one_free{W:World}{T:TypeId}{g:Nat}{a:Value}(h:W.heap[g]? =some (.cells #[a] T (0,0))):W.frozen? ⟨g,0,none⟩=false:=by simp[World.frozen?,h]
theorem one_set{W:World}{T:TypeId}{g:Nat}{a:Value}(h:W.heap[g]? =some (.cells #[a] T (0,0)))(b:Value):(W.setCell ⟨g,0,none⟩ b).heap[g]? =some (.cells #[b] T (0,0)):=by
 rw[setCell_eq_setRow W g 0 #[a] T (0,0) b h];exact setRow_heap W g #[a] #[b] T (0,0) h
theorem z6A{W W':World}(h:Below W.heap.size W W'):KeepsOthers W W':=⟨h.size,λk o hk _=>(h.block k (qW.1 hk).1).trans hk⟩
def toks(T:Nat->Tk){n:Nat}(pre:List (Ix n)):List Tk:=pre.map λx=>T x.1
theorem z9K(T:Nat->Tk){n:Nat}(pre:List (Ix n))(x:Ix n):toks T (pre++[x])=toks T pre++[T x.1]:=by simp[toks]
theorem z66(T:Nat->Tk){n:Nat}(pre:List (Ix n)):(toks T pre).length=pre.length:=by simp[toks]
theorem z9J{L:List Tk}{n j:Nat}{pre:List (Ix n)}(hl:L.length=n)(hj:j<=n)(h:pre.map (·.1)=List.range j):toks (λi=>L.getD i default) pre=L.take j:=by
 have e:toks (λi=>L.getD i default) pre=(List.range j).map λi=>L.getD i default:=by rw[<-h,List.map_map];rfl
 rw[e];apply List.ext_getElem?;intro i;rw[List.getElem?_map,List.getElem?_take];by_cases c:i<j
 · rw[List.getElem?_range c,if_pos c]
   show some (L.getD i default)=_
   rw[List.getD,qE (by omega)];rfl
 · rw[if_neg c,List.getElem?_eq_none (by simp;omega)];rfl
def zjx(w2:World)(n₀ n₁:Nat)(T:Nat->Tk)(n:Nat)(pre:List (Ix n))(W:World):Prop:=
 W.heap[n₀]? =some (.cells #[.int .i64 (szs (toks T pre):Nat)] 3 (0,0))/\Kept (Sx n₀ n₀ n₁) w2 W
theorem zjx.own{w2:World}{n₀ n₁:Nat}{T:Nat->Tk}{n:Nat}(h0:n₀<n₁):OwnFrom n₁ (zjx w2 n₀ n₁ T n):=λpre W W' row hs hg hr=>by
 obtain⟨h1,h2⟩:=hs;have hlt:=(qW.1 h1).1;exact⟨(hg.block n₀ hlt (λe=>by have:=(hr n₀ e.symm).1;omega)).trans h1,h2.grown hg (λr e=> .inl (.inr (.inr (hr r e).1)))⟩
def AxS(n₁:Nat)(T:Nat->Tk){n:Nat}(f:Ix n->Nat->Act)(x:Ix n)(a':Act)(W:World):Prop:=
 ∃Bx,n₁<=Bx/\R3 W 139 Bx (.int .u8 (T x.1).l) (.int .i64 (T x.1).n) (.int .i64 (T x.1).d)/\a'=f x Bx
theorem AxS.own{n₁:Nat}{T:Nat->Tk}{n:Nat}{f:Ix n->Nat->Act}{x:Ix n}{a':Act}:OwnFrom n₁ (λ(_:Unit) W=>AxS n₁ T f x a' W):=λ_ W W' row hs hg hr=>by
 obtain⟨Bx,h1,h2,h3⟩:=hs;refine⟨Bx,h1,h2.of_block (hg.block Bx h2.lt (λe=> ?_)),h3⟩;obtain⟨_,o,ho,hc⟩:=hr Bx e.symm;obtain⟨cur,hb,_⟩:=h2;rw[hb] at ho;cases ho;cases hc
theorem size_any(A:Option Addr)(n c:Nat)(L:List Tk)(w:World)(h:z0j w A n L)(hn:n<=1000000):
 Calls prog 195 #[.slice A n c] w λe w'=>e=.returned (.int .i64 (szs L:Nat))/\Below w.heap.size w w':=by
 have hl:=h.leng;obtain⟨T,hT⟩:∃T:Nat->Tk,(λi=>L.getD i default)=T:=⟨_,rfl⟩
 have hTk:=λ(j:Nat) (pre:List (Ix n)) (hj:j<=n) (hp:pre.map (·.1)=List.range j)=>z9J hl hj hp
 rw[hT] at hTk;have HTk:=qH hTk;have HL:=qH (show L.take n=L from List.take_of_length_le (by omega));have HH:=qH (show 0<n->∃b o,A=some ⟨b,o,none⟩/\b<w.heap.size/\∀i,i<n->w.cell? ⟨b,o+i*3,none⟩=some (.int .u8 (T i).l)/\w.cell? ⟨b,o+i*3+1,none⟩=some (.int .i64 (T i).n)/\w.cell? ⟨b,o+i*3+2,none⟩=some (.int .i64 (T i).d) from λhp=>by
  obtain⟨b,o,e1,e2,e3⟩:=h.at hp;exact⟨b,o,e1,e2,λi hi=>by rw[<-hT];exact e3 i hi⟩)
 clear h hTk hT hl;refine(callsIn_wide (n:=5)).1 ?_
 refine callsIn_of_wp_marks func195 rfl trivial ?_ rfl;simp only[ntmps195,List.size_toArray,qC,List.length_nil,Nat.reduceAdd,Nat.reduceSub,Array.replicate_succ,Array.replicate_zero,List.push_toArray,List.append_toArray,List.nil_append,List.cons_append]
 gi_wp2_with (refine⟨trivial,?_⟩;gi_at_call 231;refine(callsIn_wide.2 (zcH _ _ _ _)).mono ?_;rintro e w' ⟨rfl,rfl⟩)
 have hz2:((w.alloc (.cells #[.int .i64 0] 3)).alloc (.cells #[.slice A n c] 92)).heap.size=w.heap.size+1+1:=(by simp);have hb2:Below w.heap.size w ((w.alloc (.cells #[.int .i64 0] 3)).alloc (.cells #[.slice A n c] 92)):=((Below.refl _ w).alloc qR _).alloc (by simp) _;have g0:((w.alloc (.cells #[.int .i64 0] 3)).alloc (.cells #[.slice A n c] 92)).heap[w.heap.size]? =some (.cells #[.int .i64 0] 3 (0,0)):=old_at _ (new_at _ _);have g1:((w.alloc (.cells #[.int .i64 0] 3)).alloc (.cells #[.slice A n c] 92)).heap[w.heap.size+1]? =some (.cells #[.slice A n c] 92 (0,0)):=by
  have:=new_at (w.alloc (.cells #[.int .i64 0] 3)) (.cells #[.slice A n c] 92);rw[World.size_alloc] at this;exact this
 generalize hw2:(w.alloc (.cells #[.int .i64 0] 3)).alloc (.cells #[.slice A n c] 92)=w2 at hz2 hb2 g0 g1 ⊢;clear hw2;have hA:0<n->∃b o,A=some ⟨b,o,none⟩/\b<w2.heap.size/\b≠w.heap.size/\b≠w.heap.size/\∀i,i<n->w2.cell? ⟨b,o+i*3,none⟩=some (.int .u8 (T i).l)/\w2.cell? ⟨b,o+i*3+1,none⟩=some (.int .i64 (T i).n)/\w2.cell? ⟨b,o+i*3+2,none⟩=some (.int .i64 (T i).d):=λhp=>by
  obtain⟨b,o,e1,e2,e3⟩:=HH.o hp;exact⟨b,o,e1,by omega,by omega,by omega,λi hi=>⟨(hb2.cell (p:=⟨b,o+i*3,none⟩) e2).trans (e3 i hi).1,(hb2.cell (p:=⟨b,o+i*3+1,none⟩) e2).trans (e3 i hi).2.1,(hb2.cell (p:=⟨b,o+i*3+2,none⟩) e2).trans (e3 i hi).2.2⟩⟩
 have HB2:=qH hb2;have hz2':w.heap.size<w2.heap.size:=by omega
 have HFd:=qH (show ∀W,Kept (Sx w.heap.size w.heap.size w2.heap.size) w2 W->Below w.heap.size w W from λW hk=>
  HB2.o.trans (hk.below (by omega) (λj hj=>by rcases hj with hj|hj|hj<;>omega)))
 clear hb2 HH
 refine wpIn_rangeFunc_ownH rfl (by omega) (gf:= 268) (lb:= #[.pointer (some ⟨w.heap.size+1,0,none⟩)]) rfl trivial (enters_of func268 (by kernel_rfl) rfl)
  (z8s 4 (w.heap.size+1) w.heap.size w.heap.size w2.heap.size n c A T (by omega) (by omega) w2 qR (by omega) (by omega) (by omega) (one_cell g1) hA)
  (λh k=>keptSx_t h k) (λW l o o' hl h _ _=>keptSx_b W l o o' hl h) (Below.refl _ _) (λ_=>rfl)
  (zjx w2 w.heap.size w2.heap.size T n) (λ_ _ _=>False) (zjx.own hz2') (λ_ _ _ _ _ hs _ _=>hs)
  ⟨g0,Kept.refl _ _⟩
  (AxS w2.heap.size T (λx Bx=> {tmps:= #[.slice A n c,undef,.int .i64 0,.pointer (some ⟨w.heap.size,0,none⟩),.pointer (some ⟨Bx,0,none⟩),.slice A n c,.func (.func 268) #[] #[.pointer (some ⟨w.heap.size+1,0,none⟩)],.agg #[.int .u8 (T x.1).l,.int .i64 (T x.1).n,.int .i64 (T x.1).d],undef,undef,undef,undef,undef],defers:=[]}))
  (λx a'=>AxS.own)
  ?assign ?body ?done ?stop
 case assign=>
  rintro l pre x W K ⟨hm1,hm2⟩ hK;unfold zjG;have HK:=qH (λ(a':Act) (W':World) (h1:KeepsFrom w2.heap.size W W') (h2:Kept (Sx w.heap.size w.heap.size w2.heap.size) W W') (h3:zjx w2 w.heap.size w2.heap.size T n pre W') h4=>hK a' W' h1 h2 h3 h4);clear hK;obtain⟨t,ht⟩:∃t,T x.1=t:=⟨_,rfl⟩
  have HT:=qH ht;rw[ht];clear ht;obtain⟨tl,tn,td⟩:=t;obtain⟨H1,H2⟩:=qh2 hm1 hm2;clear hm1 hm2;gi_wp2;exact HK.o _ _ ((KeepsOthers.alloc _ _).from _) ((Kept.refl _ _).alloc _) ⟨old_at _ H1.o,H2.o.alloc _⟩ ⟨W.heap.size,H2.o.size,by rw[HT.o];exact R3.new _ _ _ _ _,by dsimp only;rw[HT.o]⟩
 case body=>
  rintro l' pre x a' W hl' ⟨r,hr⟩ ⟨hm1,hm2⟩ ⟨Bx,hBx,hR,rfl⟩ hlt;obtain⟨t,ht⟩:∃t,T x.1=t:=⟨_,rfl⟩
  have HT:=qH ht;dsimp only;rw[ht] at hR ⊢;clear ht;obtain⟨tl,tn,td⟩:=t;simp only at hR ⊢;have c0:=hR.at0;have c1:=hR.at1;have c2:=hR.at2;have s0:=one_cell hm1;have hS:=z8F tl tn td;have hsn:=z9K T pre x;have hle:=szs_le (toks T pre);rw[z66] at hle;obtain⟨S,hSS⟩:∃S,szs (toks T pre)=S:=⟨_,rfl⟩
  obtain⟨z,hzz⟩:∃z,szo ⟨tl,tn,td⟩=z:=⟨_,rfl⟩
  have hz258:=zf1 ⟨tl,tn,td⟩;rw[hSS] at hle s0 hm1;rw[hzz] at hz258 hS;have HE:=qH (show szs (toks T (pre++[x]))=S+z by rw[hsn,szs_append,HT.o,hSS];simp[szs,hzz]);have hw1:IntKind.i64.wrap ((S:Int)+(z:Int))=((S+z:Nat):Int):=(by rw[IntWalk.i64_in _ ⟨by omega,by omega⟩];omega);have HS:=qH hS;clear hS hsn hSS hzz hle hz258;obtain⟨H1,H2⟩:=qh2 hm1 hm2;clear hm1 hm2 hR hA hr;have hmx: prog.follows .mixedOrders=true:=(by kernel_rfl);have HX:=qH (show ∀w1 w',w1.heap=W.heap->Below w1.heap.size w1 w'->w'.heap[w.heap.size]? =some (.cells #[.int .i64 (S:Nat)] 3 (0,0)) from λw1 w' h1 h2=>by
   have hlt0:=(qW.1 H1.o).1;rw[h2.block w.heap.size (by rw[h1];exact hlt0),h1];exact H1.o)
  gi_wp2
  gi_region_with_o (refine⟨trivial,?_⟩;gi_at_call 232;refine(CallsIn.inRound l' (callsIn_wide.2 (HS.o _))).mono ?_;rintro e w' ⟨rfl,hbb⟩;have q1:=HX.o _ _ (by rfl) hbb;have q2:=one_cell q1;have q3:=one_free q1;have HC:=qH ((Kept.refl NoB W).drew.trans (Kept.of_below hbb) (λ_ g=>g.elim));have HKO:=qH ((KeepsOthers.drew W).trans (z6A hbb));have Q1:=qH q1;clear hbb q1)
  all_goals gi_wp2
  all_goals exact⟨(HKO.o.trans (KeepsOthers.setCell _ _ _)).from _,((HC.o.none _).setCell ⟨w.heap.size,0,none⟩ (.inl (.inl rfl)) _),by rw[HE.o];exact one_set Q1.o _,keptSx_t H2.o ((HC.o.none _).setCell ⟨w.heap.size,0,none⟩ (.inl (.inl rfl)) _)⟩
 case done=>
  rintro D ys W hD hS ⟨hm1,hm2⟩ hK;have hz:szs (toks T ys)=szs L:=(by rw[HTk.o n ys qR hS,HL.o]);rw[hz] at hm1;have s0:=one_cell hm1;have HKd:=qH hK;have HB:=qH (HFd.o W hm2);clear hS hm1 hm2 hA hK hz;gi_wp2;have hK':=HKd.o;refine⟨by simp,.inl ⟨_,_,rfl,run_takeDeferred hK',?_⟩⟩;exact⟨_,results_tmp rfl _ _ _,rfl,HB.o.trans (belowK_b (w:=w) qR _ D _ _ (by omega) hK' rfl rfl)⟩
 case stop=>
  rintro D c pre W _ _ h _;exact h.elim
