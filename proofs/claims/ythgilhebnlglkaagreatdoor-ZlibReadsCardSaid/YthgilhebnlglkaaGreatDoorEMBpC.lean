import Derived.Test.YthgilhebnlglkaaGreatDoorEBpB
import Derived.Test.YthgilhebnlglkaaGreatDoorESaD
set_option linter.all false
set_option maxHeartbeats 8000000
set_option maxRecDepth 1000000
open Go.Proofs.Tryz
namespace Go.Proofs.YthgilhebnlglkaaGreatDoor.V
open Go Go.RowKit M U
attribute [local go_sem] Oper.semAt_some
structure Kq(R X n₁:Nat)(W W':World):Prop where
 k:Kept (Sx R X n₁) W W'
 t:∀ (i:Nat) (x y z:Int) (fz:Nat×Nat),W.heap[i]? =some (.cells #[.int .u8 x,.int .i64 y,.int .i64 z] 139 fz)->W'.heap[i]? =some (.cells #[.int .u8 x,.int .i64 y,.int .i64 z] 139 fz)
section
variable {R X n₁:Nat} {A B C W W':World}
theorem Kq.refl(W:World):Kq R X n₁ W W:=⟨Kept.refl _ _,λ_ _ _ _ _ h=>h⟩
theorem Kq.trans(h:Kq R X n₁ A B)(k:Kq R X n₁ B C):Kq R X n₁ A C:=⟨keptSx_t h.k k.k,λi x y z fz e=>k.t i x y z fz (h.t i x y z fz e)⟩
theorem Kq.of_below(hb:Below W.heap.size W W'):Kq R X n₁ W W':=⟨(Kept.of_below hb).none _,λi x y z fz e=>(hb.block i (qW.1 e).1).trans e⟩
theorem Kq.book(W:World)(l:Nat)(o o':Obj)(hl:n₁<=l)(h:W.heap[l]? =some o)(hc:o.isCells=false):Kq R X n₁ W (W.putObj l o'):=by
 refine⟨keptSx_b W l o o' hl h,λi x y z fz e=> ?_⟩;rw[World.putObj_heap_other (λq=> ?_)]
 · exact e
 · subst q
   rw[e] at h;cases h;cases hc
end
def Oky(y:Sy):Prop:=((y.d=false->y.n<286)/\(y.d=true->y.n<30))/\y.b<=13/\y.e<=32768/\y.e<2^y.b
abbrev Oy:={y:Sy//Oky y}
def zjc(y:Sy):Array Value:= #[sgv y]
theorem zek:zjc ⟨false,256,0,0⟩= #[.agg #[.bool false,.int .i64 256,.int .u32 0,.int .u8 0]]:=rfl
theorem z5t(A:Option Addr)(n c:Nat)(w:World):Calls prog 248 #[.slice A n c] w λe w'=>
 e=.returned (.func (.func 282) #[] #[.pointer (some ⟨w.heap.size,0,none⟩)])/\w'=w.alloc (.cells #[.slice A n c] 92):=by
 go_enter func248,ntmps248;go_wp2;go_ret;exact⟨by simp,rfl⟩
def z9m(L:List Tk):Prop:=∀ (m Bs R X n₁ n c:Nat) (A:Option Addr),1<=m->n<=100000->Bs<n₁->Bs≠R->Bs≠X->
 (∀g,g= 2 \/g= 3 ->g<n₁/\g≠R/\g≠X)->∀w:World,n₁<=w.heap.size->
 w.cell? ⟨Bs,0,none⟩=some (.slice A n c)->z0j w A n L->(∀t∈L,may t=true)->(∀b o,A=some ⟨b,o,none⟩->0<n->b<n₁/\b≠R/\b≠X)->Y.Tab w->
 SeqStopsK Fence.wide m prog 282 #[.pointer (some ⟨Bs,0,none⟩)] (λy:Oy=>zjc y.1) (Kq R X n₁) (λys=>ys.map (·.1)=sys L) (λpre=> ∃r,pre.map (·.1)++r=sys L) (sys L).length w
end Go.Proofs.YthgilhebnlglkaaGreatDoor.V
namespace Go.Proofs.YthgilhebnlglkaaGreatDoor.V
open Go Go.RowKit M U
attribute [local go_sem] Oper.semAt_some
theorem z7l{P:Program}{w:World}{g:Nat}{t T:TypeId}{C:Array Value}{d:TypeDesc}(h:w.heap[g]? =some (.cells C t (0,0)))(hu:P.underlying T=some d)(hd:d.isRow=true)(hi:(P.info? T).map (·.size)=some C.size):
 (Instr.loadAt T (.pointer (some ⟨g,0,none⟩))).run P w=.ok (.agg C) w:=by
 have e:=run_loadAt_mid (P:=P) w g 0 T C.toList d (λj v hv=>by
  rw[Nat.zero_add,cell_of_row _ _ j _ _ (0,0) h]
  simpa using hv) hu hd (by simpa using hi)
 simpa using e
theorem z5l{P:Program}{w:World}{g:Nat}{t T:TypeId}{C D:Array Value}(h:w.heap[g]? =some (.cells D t (0,0)))(hi:(P.info? T).map (·.size)=some C.size)(ho:D.size=C.size)(h1:C.all (·.oneCell')=true):
 (Instr.storeAt T (.pointer (some ⟨g,0,none⟩)) (.agg C)).run P w=.ok () (w.setRow g C):=by
 simp only[Instr.storeAt,Instr.sureAddr,Sem.run_bind,Sem.run_pure,Result.andThen];exact run_storeVar_row w g t T D C h hi ho h1
section
variable {F:Fence} {n:Nat} {P:Program} {ops:Array Oper} {rest:List Oper} {o:Oper} {a:Act} {w w':World} {Q:Exit->Act->World->Prop}
theorem z3w(hgd:o.guard=none)(T:TypeId)(x:Operand)(ho:o.op=.load T x)(g q:Nat)(hx:a.eval x=.pointer (some ⟨g,q,none⟩))(C:Array Value)(hr:(Instr.loadAt T (.pointer (some ⟨g,q,none⟩))).run P w=.ok (.agg C) w)
 (h:wpListIn F n P ops Q rest (a.put o.dst (.agg C)) w):wpListIn F n P ops Q (o::rest) a w:=by
 refine wpListIn_plain hgd λK hK=> ?_
 unfold Oper.wpIn;refine⟨?_,?_⟩
 · simp[Oper.about,ho]
 · rw[Oper.semAt_plain F _ _ (by rw[ho];intro c hc';cases hc')]
   unfold execOp;simp only[ho,hx,hr,Sem.run_bind,Sem.run_pure,Result.andThen_ok];exact hK _ _ h
theorem z2O(hgd:o.guard=none)(T:TypeId)(x y:Operand)(ho:o.op=.store T x y)(g q:Nat)(hx:a.eval x=.pointer (some ⟨g,q,none⟩))(v:Value)(hy:a.eval y=v)(hr:(Instr.storeAt T (.pointer (some ⟨g,q,none⟩)) v).run P w=.ok () w')
 (h:wpListIn F n P ops Q rest (a.put o.dst undef) w'):wpListIn F n P ops Q (o::rest) a w:=by
 refine wpListIn_plain hgd λK hK=> ?_
 unfold Oper.wpIn;refine⟨?_,?_⟩
 · simp[Oper.about,ho]
 · rw[Oper.semAt_plain F _ _ (by rw[ho];intro c hc';cases hc')]
   unfold execOp;simp only[ho,hx,hy,hr,Sem.run_bind,Sem.run_pure,Result.andThen_ok];exact hK _ _ h
theorem z0M(hgd:o.guard=none)(T:TypeId)(x:Operand)(ho:o.op=.load T x)(g q:Nat)(hx:a.eval x=.pointer (some ⟨g,q,none⟩))(C:Array Value)(hr:(Instr.loadAt T (.pointer (some ⟨g,q,none⟩))).run P w=.ok (.agg C) w)
 (h:wpList P ops Q rest (a.put o.dst (.agg C)) w):wpList P ops Q (o::rest) a w:=by
 refine wpList_plain hgd λK hK=> ?_
 unfold Oper.wp execOp;simp only[ho,hx,hr,Sem.run_bind,Sem.run_pure,Result.andThen_ok];exact hK _ _ h
theorem z0n(hgd:o.guard=none)(T:TypeId)(x y:Operand)(ho:o.op=.store T x y)(g q:Nat)(hx:a.eval x=.pointer (some ⟨g,q,none⟩))(v:Value)(hy:a.eval y=v)(hr:(Instr.storeAt T (.pointer (some ⟨g,q,none⟩)) v).run P w=.ok () w')
 (h:wpList P ops Q rest (a.put o.dst undef) w'):wpList P ops Q (o::rest) a w:=by
 refine wpList_plain hgd λK hK=> ?_
 unfold Oper.wp execOp;simp only[ho,hx,hy,hr,Sem.run_bind,Sem.run_pure,Result.andThen_ok];exact hK _ _ h
end
def cF(f g:Nat->Nat)(b i:Nat):Value:=if i<286 then .int .i64 (f i:Nat) else if i<316 then .int .i64 (g (i - 286):Nat) else .int .i64 (b:Nat)
def CV(f g:Nat->Nat)(b:Nat):Array Value:=((List.range 317).map (cF f g b)).toArray
theorem z0U(f g:Nat->Nat)(b:Nat):(CV f g b).size=317:=by unfold CV;simp
theorem z9q(f g:Nat->Nat)(b i:Nat)(h:i<317):(CV f g b)[i]? =some (cF f g b i):=by
 unfold CV;rw[List.getElem?_toArray,List.getElem?_map,List.getElem?_range h];rfl
theorem zfN(f g:Nat->Nat)(b i:Nat):(cF f g b i).oneCell'=true:=by
 unfold cF
 split
 · rfl
 · split<;>rfl
theorem zjC(f g:Nat->Nat)(b:Nat):(CV f g b).all (·.oneCell')=true:=by
 unfold CV;refine all_oneCell_toArray (λv hv=> ?_);obtain⟨i,_,rfl⟩:=List.mem_map.1 hv;exact zfN f g b i
def Cn(w:World)(X:Nat)(f g:Nat->Nat)(b:Nat):Prop:=w.heap[X]? =some (.cells (CV f g b) 290 (0,0))
section
variable {w w':World} {X:Nat} {f g f' g':Nat->Nat} {b b':Nat}
theorem Cn.new(w:World)(f g:Nat->Nat)(b:Nat):Cn (w.alloc (.cells (CV f g b) 290)) w.heap.size f g b:=heap_alloc_new _ _
theorem Cn.lt(h:Cn w X f g b):X<w.heap.size:=(qW.1 h).1
theorem Cn.below(h:Cn w X f g b)(hb:Below w.heap.size w w'):Cn w' X f g b:=(hb.block X h.lt).trans h
theorem Cn.alloc(h:Cn w X f g b)(o:Obj):Cn (w.alloc o) X f g b:=(Below.heap_alloc w o X h.lt).trans h
theorem Cn.lit(h:Cn w X f g b){i:Nat}(hi:i<286):w.cell? ⟨X,i,none⟩=some (.int .i64 (f i:Nat)):=by
 rw[cell_of_row _ _ i _ _ (0,0) h,z9q f g b i (by omega)];unfold cF;rw[if_pos hi]
theorem Cn.dist(h:Cn w X f g b){i:Nat}(hi:i<30):w.cell? ⟨X,286+i,none⟩=some (.int .i64 (g i:Nat)):=by
 rw[cell_of_row _ _ _ _ _ (0,0) h,z9q f g b _ (by omega)];unfold cF;rw[if_neg (by omega),if_pos (by omega),show 286+i - 286=i by omega]
theorem Cn.bits(h:Cn w X f g b):w.cell? ⟨X,316,none⟩=some (.int .i64 (b:Nat)):=by
 rw[cell_of_row _ _ _ _ _ (0,0) h,z9q f g b _ (by omega)];rfl
theorem Cn.free(h:Cn w X f g b)(i:Nat):w.frozen? ⟨X,i,none⟩=false:=by
 have h':w.heap[X]? =some (.cells (CV f g b) 290 (0,0)):=h;simp[World.frozen?,h']
theorem Cn.set(h:Cn w X f g b)(i:Nat)(v:Value)(e:∀j,j<317->cF f' g' b' j=if j=i then v else cF f g b j):Cn (w.setCell ⟨X,i,none⟩ v) X f' g' b':=by
 unfold Cn at h ⊢;rw[setCell_eq_setRow w X i (CV f g b) _ (0,0) v h,setRow_heap w X _ _ _ (0,0) h];congr 2;apply Array.ext_getElem?;intro j;by_cases hj:j<317
 · rw[z9q _ _ _ j hj,e j hj,Array.getElem?_setIfInBounds]
   split
   · rename_i q;subst q;rw[if_pos (by rw[z0U];exact hj),if_pos rfl]
   · rename_i q;rw[if_neg (λz=>q z.symm),z9q f g b j hj]
 · rw[Array.getElem?_eq_none (by rw[Array.size_setIfInBounds,z0U];omega),Array.getElem?_eq_none (by rw[z0U];omega)]
theorem Cn.nums(h:Cn w X f g b):z0e w .i64 (some ⟨X,0,none⟩) 286 (λi=>(f i:Int)):=λ_=>⟨X,0,rfl,h.lt,λi hi=>by rw[Nat.zero_add];exact h.lit hi⟩
theorem Cn.numsd(h:Cn w X f g b):z0e w .i64 (some ⟨X,286,none⟩) 30 (λi=>(g i:Int)):=λ_=>⟨X,286,rfl,h.lt,λi hi=>h.dist hi⟩
end
theorem zc3:(prog.info? 290).map (λi=>(i.zero,i.size))=some (some (.agg (CV (λ_=>0) (λ_=>0) 0)),317):=by kernel_rfl
theorem zhz(w:World):(zeroValue 290).run prog w=.ok (.agg (CV (λ_=>0) (λ_=>0) 0)) w:=(zero_of_info zc3).1 w
theorem z4Q:(prog.info? 290).map (·.size)=some 317:=(zero_of_info zc3).2
theorem Cn.load{w:World}{X:Nat}{f g:Nat->Nat}{b:Nat}(h:Cn w X f g b):(Instr.loadAt 290 (.pointer (some ⟨X,0,none⟩))).run prog w=.ok (.agg (CV f g b)) w:=
 z7l h underlying290 rfl (by rw[z0U];exact z4Q)
theorem Cn.store{w:World}{X:Nat}{f g:Nat->Nat}{b:Nat}(h:Cn w X f g b)(f' g':Nat->Nat)(b':Nat):
 (Instr.storeAt 290 (.pointer (some ⟨X,0,none⟩)) (.agg (CV f' g' b'))).run prog w=.ok () (w.setRow X (CV f' g' b')):=
 z5l h (by rw[z0U];exact z4Q) (by rw[z0U,z0U]) (zjC _ _ _)
theorem Cn.setRow{w:World}{X:Nat}{f g:Nat->Nat}{b:Nat}(h:Cn w X f g b)(f' g':Nat->Nat)(b':Nat):Cn (w.setRow X (CV f' g' b')) X f' g' b':=setRow_heap w X _ _ _ (0,0) h
def zhY(w2:World)(X n₁:Nat)(pre:List Oy)(W:World):Prop:=
 Cn W X (cs false (pre.map (·.1))) (cs true (pre.map (·.1))) (smb (pre.map (·.1)))/\Kq X X n₁ w2 W
theorem zhY.own{w2:World}{X n₁:Nat}(h0:X<n₁):OwnFrom n₁ (zhY w2 X n₁):=λpre W W' row hs hg hr=>by
 obtain⟨h1,h2⟩:=hs;refine⟨(hg.block X h1.lt (λe=>by have:=(hr X e.symm).1;omega)).trans h1,⟨h2.k.grown hg (λr e=> .inl (.inr (.inr (hr r e).1))),λi x y z fz e=> ?_⟩⟩;have q:=h2.t i x y z fz e;refine(hg.block i (qW.1 q).1 (λe2=> ?_)).trans q;obtain⟨_,o,ho,hc⟩:=hr i e2.symm;rw[q] at ho;cases ho;cases hc
def AxC(n₁:Nat)(f:Oy->Nat->Act)(x:Oy)(a':Act)(W:World):Prop:=
 ∃Bx,n₁<=Bx/\W.heap[Bx]? =some (.cells #[.bool x.1.d,.int .i64 (x.1.n:Nat),.int .u32 (x.1.e:Nat),.int .u8 (x.1.b:Nat)] 335 (0,0))/\a'=f x Bx
theorem AxC.own{n₁:Nat}{f:Oy->Nat->Act}{x:Oy}{a':Act}:OwnFrom n₁ (λ(_:Unit) W=>AxC n₁ f x a' W):=λ_ W W' row hs hg hr=>by
 obtain⟨Bx,h1,h2,h3⟩:=hs;refine⟨Bx,h1,(hg.block Bx (qW.1 h2).1 (λe=> ?_)).trans h2,h3⟩;obtain⟨_,o,ho,hc⟩:=hr Bx e.symm;rw[h2] at ho;cases ho;cases hc
theorem Kq.setc{X n₁:Nat}{W:World}{f g:Nat->Nat}{b:Nat}(h:Cn W X f g b)(i:Nat)(v:Value):Kq X X n₁ W (W.setCell ⟨X,i,none⟩ v):=by
 refine⟨(Kept.refl _ W).setCell ⟨X,i,none⟩ (.inl (.inl rfl)) v,λk x y z fz e=> ?_⟩;rw[Below.heap_setCell _ _ _ _ (λq=> ?_)]
 · exact e
 · have h':W.heap[X]? =some (.cells (CV f g b) 290 (0,0)):=h
   rw[q,show(⟨X,i,none⟩:Addr).block=X from rfl,h'] at e;simp only[Option.some.injEq,Obj.cells.injEq] at e;exact absurd e.2.1 (by decide)
theorem z3S:∀S T:List Sy,smb (S++T)=smb S+smb T
 |[],T=>by simp[smb]
 |y::S,T=>by simp only[List.cons_append,smb,z3S S T];omega
theorem zhE(S:List Sy)(yn ye yb b:Nat)(hn:yn<30):∀j,j<317->cF (cs false (S++[⟨true,yn,ye,yb⟩])) (cs true (S++[⟨true,yn,ye,yb⟩])) b j=if j=286+yn then .int .i64 ((cs true S yn+1:Nat):Int) else cF (cs false S) (cs true S) b j:=by
 intro j hj;unfold cF;simp only[z3f,cs];by_cases h1:j<286
 · have h3:¬j=286+yn:=by omega
   rw[if_neg h3,if_pos h1,if_pos h1];simp
 · rw[if_neg h1]
   by_cases h2:j<316
   · rw[if_pos h2]
     by_cases h3:j=286+yn
     · subst h3
       rw[if_pos rfl,show 286+yn - 286=yn by omega];simp
     · have h4:¬(yn=j - 286):=λq=>h3 (by omega)
       rw[if_neg h3,if_neg h1,if_pos h2];simp[h4]
   · have h3:¬j=286+yn:=by omega
     rw[if_neg h2,if_neg h3,if_neg h1,if_neg h2]
theorem zjk(S:List Sy)(yn ye yb b:Nat)(hn:yn<286):∀j,j<317->cF (cs false (S++[⟨false,yn,ye,yb⟩])) (cs true (S++[⟨false,yn,ye,yb⟩])) b j=if j=yn then .int .i64 ((cs false S yn+1:Nat):Int) else cF (cs false S) (cs true S) b j:=by
 intro j hj;unfold cF;simp only[z3f,cs];by_cases h1:j<286
 · rw[if_pos h1]
   by_cases h3:j=yn
   · subst h3
     rw[if_pos rfl];simp
   · have h4:¬(yn=j):=λq=>h3 q.symm
     rw[if_neg h3,if_pos h1];simp[h4]
 · have h3:¬j=yn:=by omega
   rw[if_neg h1,if_neg h3,if_neg h1];simp
theorem zcc(f g:Nat->Nat)(b b':Nat):∀j,j<317->cF f g b' j=if j=316 then .int .i64 (b':Nat) else cF f g b j:=by
 intro j hj;unfold cF;by_cases h1:j<286
 · rw[if_pos h1,if_neg (by omega),if_pos h1]
 · rw[if_neg h1,if_neg h1]
   by_cases h2:j<316
   · rw[if_pos h2,if_neg (by omega),if_pos h2]
   · rw[if_neg h2,if_neg h2,if_pos (by omega)]
theorem zf5{S:List Sy}(h:∀y∈S,y.b<=13):smb S<=13*S.length:=by
 induction S with
 |nil=>simp[smb]
 |cons y S ih=>
  have h1:=ih (λz hz=>h z (List.mem_cons_of_mem _ hz));have h2:=h y List.mem_cons_self;simp only[smb,qC];omega
theorem Kq.alloc{R X n₁:Nat}(W:World)(o:Obj):Kq R X n₁ W (W.alloc o):=Kq.of_below ((Below.refl _ _).alloc qR o)
theorem z84(L:List Tk)(hst:z9m L)(A:Option Addr)(n c:Nat)(w:World)(hT:Y.Tab w)(h:z0j w A n L)(hn:n<=100000)(hmay:∀t∈L,may t=true):
 Calls prog 241 #[.slice A n c] w λe w'=>e=.returned (.agg (CV (cs false (sys L)) (cs true (sys L)) (smb (sys L))))/\Below w.heap.size w w':=by
 obtain⟨HH,HT,HMay,HSt⟩:=qh4 h hT hmay hst;have hz:=zhz;have HN:=qH (show(sys L).length<=200001 from by have:=z2U L;have:=h.leng;omega);clear h hT hmay hst;refine(callsIn_wide (n:=5)).1 ?_
 refine callsIn_of_wp_marks func241 rfl trivial ?_ rfl;simp only[ntmps241,List.size_toArray,qC,List.length_nil,Nat.reduceAdd,Nat.reduceSub,Array.replicate_succ,Array.replicate_zero,List.push_toArray,List.append_toArray,List.nil_append,List.cons_append]
 gi_wp2_with (refine⟨trivial,?_⟩;gi_at_call 248;refine(callsIn_wide.2 (z5t _ _ _ _)).mono ?_;rintro e w' ⟨rfl,rfl⟩)
 have hb2:Below w.heap.size w (((w.alloc (.cells (CV (λ_=>0) (λ_=>0) 0) 290)).alloc (.cells (CV (λ_=>0) (λ_=>0) 0) 290)).alloc (.cells #[.slice A n c] 92)):=(((Below.refl _ w).alloc qR _).alloc (by simp) _).alloc (by simp;omega) _;have hz2:(((w.alloc (.cells (CV (λ_=>0) (λ_=>0) 0) 290)).alloc (.cells (CV (λ_=>0) (λ_=>0) 0) 290)).alloc (.cells #[.slice A n c] 92)).heap.size=w.heap.size+1+1+1:=(by simp);have k0:Cn (((w.alloc (.cells (CV (λ_=>0) (λ_=>0) 0) 290)).alloc (.cells (CV (λ_=>0) (λ_=>0) 0) 290)).alloc (.cells #[.slice A n c] 92)) w.heap.size (λ_=>0) (λ_=>0) 0:=((Cn.new w _ _ _).alloc _).alloc _;have k1:Cn (((w.alloc (.cells (CV (λ_=>0) (λ_=>0) 0) 290)).alloc (.cells (CV (λ_=>0) (λ_=>0) 0) 290)).alloc (.cells #[.slice A n c] 92)) (w.heap.size+1) (λ_=>0) (λ_=>0) 0:=by
  have:=(Cn.new (w.alloc (.cells (CV (λ_=>0) (λ_=>0) 0) 290)) (λ_=>0) (λ_=>0) 0).alloc (.cells #[.slice A n c] 92);rw[World.size_alloc] at this;exact this
 have gb:(((w.alloc (.cells (CV (λ_=>0) (λ_=>0) 0) 290)).alloc (.cells (CV (λ_=>0) (λ_=>0) 0) 290)).alloc (.cells #[.slice A n c] 92)).heap[w.heap.size+1+1]? =some (.cells #[.slice A n c] 92 (0,0)):=by
  have:=new_at ((w.alloc (.cells (CV (λ_=>0) (λ_=>0) 0) 290)).alloc (.cells (CV (λ_=>0) (λ_=>0) 0) 290)) (.cells #[.slice A n c] 92);rw[World.size_alloc,World.size_alloc] at this;exact this
 generalize hw2:(((w.alloc (.cells (CV (λ_=>0) (λ_=>0) 0) 290)).alloc (.cells (CV (λ_=>0) (λ_=>0) 0) 290)).alloc (.cells #[.slice A n c] 92))=w2 at hb2 hz2 k0 k1 gb ⊢;clear hw2;generalize hX:w.heap.size+1=X at hz2 k1 gb ⊢;have HB2:=qH hb2;have hT2:=HT.o.below hb2 qR;have gl1:=qB HT.o.l0;have gl2:=qB HT.o.d0;simp only at gl1 gl2;have hA:∀b o,A=some ⟨b,o,none⟩->0<n->b<w2.heap.size/\b≠X/\b≠X:=λb o e hp=>by
  obtain⟨b',o',e',hb',_⟩:=HH.o.at hp;rw[e] at e';simp only[Option.some.injEq,Addr.mk.injEq,and_true] at e';omega
 have K0:=qH k0
 have HFd:=qH (show ∀W,Kq X X w2.heap.size w2 W->Below w.heap.size w W from λW hk=>
  HB2.o.trans (hk.k.below (by omega) (λj hj=>by rcases hj with hj|hj|hj<;>omega)))
 have hXw:X<w2.heap.size:=(by omega);have h1w:w.heap.size<w2.heap.size:=(by omega);clear hb2 k0
 refine wpIn_rangeFunc_ownH rfl (by omega) (gf:= 282) (lb:= #[.pointer (some ⟨X+1,0,none⟩)]) rfl trivial (enters_of func282 (by kernel_rfl) rfl)
  (HSt.o 4 (X+1) X X w2.heap.size n c A (by omega) (by omega) (by omega) (by omega) (by omega) (λg hg=>by rcases hg with rfl|rfl<;>(refine⟨?_,?_,?_⟩<;>omega)) w2 qR (one_cell gb) (HH.o.below HB2.o) HMay.o hA hT2)
  (λh k=>h.trans k) (λW l o o' hl h hc _=>Kq.book W l o o' hl h hc) (Below.refl _ _) (λ_=>rfl)
  (zhY w2 X w2.heap.size) (λ_ _ _=>False) (zhY.own hXw) (λ_ _ _ _ _ hs _ _=>hs)
  ⟨k1,Kq.refl _⟩
  (AxC w2.heap.size (λx Bx=> {tmps:= #[.slice A n c,undef,.pointer (some ⟨w.heap.size,0,none⟩),.pointer (some ⟨X,0,none⟩),.pointer (some ⟨Bx,0,none⟩),.slice A n c,.func (.func 282) #[] #[.pointer (some ⟨X+1,0,none⟩)],sgv x.1,undef,undef,undef,undef,undef,undef,undef,undef,undef,undef,undef,undef,undef,undef,undef,undef,undef,undef,undef,undef,undef,undef,undef,undef,undef,undef,undef],defers:=[]}))
  (λx a'=>AxC.own)
  ?assign ?body ?done ?stop
 case assign=>
  rintro l pre x W K hm hK;have HK:=qH (λ(a':Act) (W':World) (h1:KeepsFrom w2.heap.size W W') (h2:Kq X X w2.heap.size W W') (h3:zhY w2 X w2.heap.size pre W') h4=>hK a' W' h1 h2 h3 h4);have HM:=qH hm;clear hK hm k1 gb hA hT2;obtain⟨⟨yd,yn,ye,yb⟩,hy⟩:=x;unfold zjc sgv;gi_wp2;exact HK.o _ _ ((KeepsOthers.alloc _ _).from _) (Kq.alloc _ _) ((zhY.own hXw).alloc _ HM.o) ⟨W.heap.size,HM.o.2.k.size,new_at _ _,rfl⟩
 case body=>
  rintro l' pre x a' W hl' ⟨r,hr⟩ ⟨hm1,hm2⟩ ⟨Bx,hBx,hR,rfl⟩ hlt;obtain⟨y,hy⟩:=x;have hlen:(pre.map (·.1)).length<200001:=(by rw[List.length_map];exact Nat.lt_of_lt_of_le hlt HN.o);obtain⟨S,hS⟩:∃S,pre.map (·.1)=S:=⟨_,rfl⟩
  have hMid:∀W',Cn W' X (cs false (S++[y])) (cs true (S++[y])) (smb (S++[y]))->Kq X X w2.heap.size w2 W'->zhY w2 X w2.heap.size (pre++[(⟨y,hy⟩:Oy)]) W':=λW' h1 h2=>⟨by rw[List.map_append,hS];exact h1,h2⟩
  have HMid:=qH hMid;rw[hS] at hlen hm1;have hy0:=hy.1.1;have hy1:=hy.1.2;have hy2:=hy.2.1;clear hMid;obtain⟨yd,yn,ye,yb⟩:=y;simp only at hR hy0 hy1 hy2;unfold sgv;dsimp only;have q0:W.cell? ⟨Bx,0,none⟩=some (.bool yd):=cell_of_row _ _ 0 _ _ (0,0) hR;have q1:W.cell? ⟨Bx,1,none⟩=some (.int .i64 yn):=cell_of_row _ _ 1 _ _ (0,0) hR;have q3:W.cell? ⟨Bx,3,none⟩=some (.int .u8 yb):=cell_of_row _ _ 3 _ _ (0,0) hR;have H2:=qH hm2;have hXB:Bx≠X:=(by omega);have hsm:smb S<=13*S.length:=zf5 (λy hy=>by
   rw[<-hS] at hy;obtain⟨z,_,rfl⟩:=List.mem_map.1 hy;exact z.2.2.1)
  have hb0:=hm1.bits;obtain⟨b,hb⟩:∃b,smb S=b:=⟨_,rfl⟩
  have HSm:=qH (show smb (S++[⟨yd,yn,ye,yb⟩])=b+yb by rw[z3S,<-hb];simp[smb]);rw[hb] at hb0 hsm;have hb26:b<=2600013:=(by omega);have f316:=hm1.free 316;cases yd
  · have hn:yn<286:=hy0 rfl
    have c0:=hm1.lit hn;have fx:=hm1.free yn;have hcl:=z5Q false S yn;have HC:=qH (hm1.set (f':=cs false (S++[⟨false,yn,ye,yb⟩])) (g':=cs true (S++[⟨false,yn,ye,yb⟩])) (b':=smb S) yn _ (zjk S yn ye yb (smb S) hn));generalize hv:cs false S yn=v at c0 HC hcl;have hv2:v<=200001:=(by omega);have s0:=HC.o.bits;rw[hb] at s0;have HKq:=qH (Kq.setc (n₁:=w2.heap.size) hm1 yn (.int .i64 ((v+1:Nat):Int)));have HKs:=qH (Kq.setc (n₁:=w2.heap.size) HC.o 316 (.int .i64 ((b+yb:Nat):Int)));have HC2:=qH (HC.o.set (f':=cs false (S++[⟨false,yn,ye,yb⟩])) (g':=cs true (S++[⟨false,yn,ye,yb⟩])) (b':=b+yb) 316 _ (zcc _ _ _ _));clear hm1 hm2 hlen hS hR hy0 hy1 hcl hv hb hsm hXB hr hlt k1 gb hA hT2;clear hz hz2;gi_wp2;exact⟨((KeepsOthers.setCell _ _ _).trans (KeepsOthers.setCell _ _ _)).from _,HKq.o.trans HKs.o,HMid.o _ (by rw[HSm.o];exact HC2.o) ((H2.o.trans HKq.o).trans HKs.o)⟩
  · have hn:yn<30:=hy1 rfl
    have c0:=hm1.dist hn;have fx:=hm1.free (286+yn);have hcl:=z5Q true S yn;have HC:=qH (hm1.set (f':=cs false (S++[⟨true,yn,ye,yb⟩])) (g':=cs true (S++[⟨true,yn,ye,yb⟩])) (b':=smb S) (286+yn) _ (zhE S yn ye yb (smb S) hn));generalize hv:cs true S yn=v at c0 HC hcl;have hv2:v<=200001:=(by omega);have s0:=HC.o.bits;rw[hb] at s0;have HKq:=qH (Kq.setc (n₁:=w2.heap.size) hm1 (286+yn) (.int .i64 ((v+1:Nat):Int)));have HKs:=qH (Kq.setc (n₁:=w2.heap.size) HC.o 316 (.int .i64 ((b+yb:Nat):Int)));have HC2:=qH (HC.o.set (f':=cs false (S++[⟨true,yn,ye,yb⟩])) (g':=cs true (S++[⟨true,yn,ye,yb⟩])) (b':=b+yb) 316 _ (zcc _ _ _ _));clear hm1 hm2 hlen hS hR hy0 hy1 hcl hv hb hsm hXB hr hlt k1 gb hA hT2;clear hz hz2;gi_wp2;exact⟨((KeepsOthers.setCell _ _ _).trans (KeepsOthers.setCell _ _ _)).from _,HKq.o.trans HKs.o,HMid.o _ (by rw[HSm.o];exact HC2.o) ((H2.o.trans HKq.o).trans HKs.o)⟩
 case done=>
  rintro D ys W hD hS ⟨hm1,hm2⟩ hK;rw[hS] at hm1;have hld:=hm1.load;have hk0:Cn W w.heap.size (λ_=>0) (λ_=>0) 0:=(hm2.k.block _ h1w (sx_no h1w (by omega) (by omega))).trans K0.o;have hst:=hk0.store (cs false (sys L)) (cs true (sys L)) (smb (sys L));have hfin:=hk0.setRow (cs false (sys L)) (cs true (sys L)) (smb (sys L));have HKd:=qH (show(W.setRow w.heap.size (CV (cs false (sys L)) (cs true (sys L)) (smb (sys L)))).heap[D]? =some (.deferred (some [])) from(setRow_other W _ D _ (by omega)).trans hK);have HB:=qH (below_setRow (HFd.o W hm2) w.heap.size (CV (cs false (sys L)) (cs true (sys L)) (smb (sys L))) qR);have HF:=qH hfin;clear hS hm1 hm2 hA hK hfin hk0 k1 gb hT2;obtain⟨HLd,HSt⟩:=qh2 hld hst;clear hld hst
  gi_wp2_with (first|refine z3w rfl 290 _ rfl _ _ rfl _ HLd.o ?_|refine z2O rfl 290 _ _ rfl _ _ rfl _ rfl HSt.o ?_)
  have hK':=HKd.o;refine⟨by simp,.inl ⟨_,_,rfl,run_takeDeferred hK',?_⟩⟩;have hF2:((W.setRow w.heap.size (CV (cs false (sys L)) (cs true (sys L)) (smb (sys L)))).putObj D (.deferred none)).heap[w.heap.size]? =some (.cells (CV (cs false (sys L)) (cs true (sys L)) (smb (sys L))) 290 (0,0)):=(World.putObj_heap_other (by omega)).trans HF.o;exact⟨_,results_cell_row rfl _ _ w.heap.size _ _ _ _ rfl hF2 underlying290 rfl (by rw[z0U];exact z4Q),rfl,HB.o.trans (belowK_b (w:=w) qR _ D _ _ (by omega) hK' rfl rfl)⟩
 case stop=>
  rintro D c pre W _ _ h _;exact h.elim
end Go.Proofs.YthgilhebnlglkaaGreatDoor.V
namespace Go.Proofs.YthgilhebnlglkaaGreatDoor.V
open Go Go.RowKit M U
attribute [local go_sem] Oper.semAt_some
theorem z5e(m l Bs R X n₁ c:Nat)(A:Option Addr)(hm:1<=m)(W0:World)(J Jx:List Sy->World->Prop)
 (hY:∀pre x W,Oky x->J pre W->pre.length<(sys []).length->YieldAt Fence.wide (m - 1) prog l (zjc x) W λe W'=>
  (e=.returned (.bool true)/\J (pre++[x]) W'/\Kq R X n₁ W W')\/(e=.returned (.bool false)/\Jx (pre++[x]) W'))
 (hBs:W0.cell? ⟨Bs,0,none⟩=some (.slice A 0 c)) (h0:J [] W0):
 CallsIn Fence.wide m prog 282 #[.func (.yield l) #[] #[],.pointer (some ⟨Bs,0,none⟩)] W0 λe W'=>(∃v,e=.returned v)/\
  ((∃ys:List Sy,ys=sys []/\J ys W')\/(∃pre:List Sy,(∃r,pre++r=sys [])/\Jx pre W')):=by
 refine callsIn_of_wp func282 rfl trivial ?_ rfl;simp only[ntmps282,List.size_toArray,qC,List.length_nil,Nat.reduceAdd,Nat.reduceSub,Array.replicate_succ,Array.replicate_zero,List.push_toArray,List.append_toArray,List.nil_append,List.cons_append];have HY:=qH hY;clear hY;gi_wp2
 gi_loopw [7] (λi wr=>i=.int .i64 0/\J [] wr) (λi _=>0)
 case atStart=>exact⟨rfl,h0⟩
 case round=>
  obtain⟨rfl,hJs⟩:=hrel;obtain⟨fn,tmps,assign,body,hy,hR⟩:=HY.o [] ⟨false,256,0,0⟩ _ ⟨⟨λ_=>by decide,λh=>by cases h⟩,by decide,by decide,by decide⟩ hJs (by decide);rw[zek] at hy;clear hJs h0;gi_wp2;refine hR.mono ?_
  rintro e W3 (⟨rfl,hJ3,hk3⟩|⟨rfl,hJx3⟩)
  · gi_wp2
    go_end0;exact⟨⟨_,rfl⟩,.inl ⟨_,rfl,hJ3⟩⟩
  · gi_wp2
    go_end0;exact⟨⟨_,rfl⟩,.inr ⟨_,⟨[],rfl⟩,hJx3⟩⟩
theorem z2V:z9m []:=λm Bs R X n₁ n c A hm hn hB1 hB2 hB3 hG w hn1 hBs hL hmay hA hT l J Jx W hW hJ _ hY h0=>by
 obtain rfl:n=0:=hL.leng.symm
 refine(z5e m l Bs R X n₁ c A hm W (λl W=> ∃l':List Oy,l'.map (·.1)=l/\J l' W) (λl W=> ∃l':List Oy,l'.map (·.1)=l/\Jx l' W)
  (λpre x W hx h hlen=>by
   obtain⟨l',e,h⟩:=h;obtain⟨fn,tmps,asg,body,hy,hR⟩:=hY l' ⟨x,hx⟩ W h (by rw[<-List.length_map (f:=(·.1)),e];exact hlen);refine⟨fn,tmps,asg,body,hy,hR.mono ?_⟩;rintro e2 W' (⟨h1,h2,h3⟩|⟨h1,h2⟩)
   · exact .inl ⟨h1,⟨_,by rw[List.map_append,e];rfl,h2⟩,h3⟩
   · exact .inr ⟨h1,⟨_,by rw[List.map_append,e];rfl,h2⟩⟩)
  ((hW.cell (p:=⟨Bs,0,none⟩) (by show Bs<_;omega)).trans hBs) ⟨[],rfl,h0⟩).mono ?_
 rintro e W' ⟨h1,h2⟩;refine⟨h1,?_⟩;rcases h2 with⟨ys,rfl,l',e1,h⟩|⟨pre,⟨r,hr⟩,l',e1,h⟩
 · exact .inl ⟨l',e1,h⟩
 · exact .inr ⟨l',⟨r,by rw[e1];exact hr⟩,h⟩
