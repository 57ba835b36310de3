import Derived.Test.YthgilhebnlglkaaGreatDoorKMP8MathC
import Derived.Test.YthgilhebnlglkaaGreatDoorRows
import Derived.OpenShut
import Derived.LaidMore
import Derived.Deep.DeepHandedRow
set_option linter.all false
set_option maxHeartbeats 0
set_option maxRecDepth 1000000
open Go.Proofs.Tryz
namespace Go.Proofs.YthgilhebnlglkaaGreatDoor
namespace V.Px
open Go Go.RowKit M
def tbl:List Int:=[0,0,0,4,8,0,8,16,0,16,32,0,8,16,4,16,32,16,64,128,16,128,128,32,512,258,128,2048,258,258]
structure Lvs(w:World):Prop where
 at0:∀i,i<10->w.cell? ⟨1,i*3,none⟩=some (.int .i64 (tbl.getD (i*3) 0))
 at1:∀i,i<10->w.cell? ⟨1,i*3+1,none⟩=some (.int .i64 (tbl.getD (i*3+1) 0))
 at2:∀i,i<10->w.cell? ⟨1,i*3+2,none⟩=some (.int .i64 (tbl.getD (i*3+2) 0))
theorem Lvs.lt{w:World}(h:Lvs w): 1 <w.heap.size:=qB (h.at0 0 (by omega))
theorem Lvs.below{w w':World}{n:Nat}(h:Lvs w)(a:Below n w w')(b:w.heap.size<=n):Lvs w':=
 ⟨λi hi=>(a.cell (p:=⟨1,i*3,none⟩) (Ag h.lt b)).trans (h.at0 i hi),λi hi=>(a.cell (p:=⟨1,i*3+1,none⟩) (Ag h.lt b)).trans (h.at1 i hi),λi hi=>(a.cell (p:=⟨1,i*3+2,none⟩) (Ag h.lt b)).trans (h.at2 i hi)⟩
theorem gLev: prog.globalNamed "platen/parse.levels" =some 1 :=by kernel_rfl
theorem tLev:(prog.globals[1]?).map (·.type)=some 275 :=by kernel_rfl
theorem pt: prog.cellsOf 232 =3:=by kernel_rfl
theorem cellsInt: prog.cellsOf 3 =1:=by kernel_rfl
theorem xY{H:Type}{enc:TypeId×Value->H}{w:World}{base:Nat}{d:Nat->Bool}{e:Bool}{m:Nat}{cs:List Value}{x:DataW H×List MemPlace}(h:DataW.trod enc prog w base d e m 232 cs=some x){a b c:Int}(f:x.1=.agg [.lit (.int .i64 a),.lit (.int .i64 b),.lit (.int .i64 c)]):
 cs=[.int .i64 a,.int .i64 b,.int .i64 c]:=by
 obtain⟨v,k,_,rfl,q,g,hf⟩:=DataW.trod_struct underlying232 h;rw[pt] at q
 match cs,q with
 |[v0,v1,v2],_=>
  match v,g with
  |[y0,y1,y2],_=>
   have i:DataW.trod enc prog w base d e k 3 (([v0,v1,v2].drop 0).take (prog.cellsOf 3))=some y0:=hf 0 _ rfl;have j:DataW.trod enc prog w base d e k 3 (([v0,v1,v2].drop 1).take (prog.cellsOf 3))=some y1:=hf 1 _ rfl;have l:DataW.trod enc prog w base d e k 3 (([v0,v1,v2].drop 2).take (prog.cellsOf 3))=some y2:=hf 2 _ rfl;simp only[cellsInt,BZ,Ck,AY,BX] at i j l;obtain⟨y,n,r,_⟩:=DataW.trod_int underlying3 i;obtain⟨z,o,s,_⟩:=DataW.trod_int underlying3 j;obtain⟨A,p,u,_⟩:=DataW.trod_int underlying3 l;simp only[List.cons.injEq,AU] at n o p;simp only[Al,Av,DataW.agg.injEq,List.cons.injEq,AU] at f;subst r s u;simp only[DataW.lit.injEq,Lit.int.injEq,true_and] at f;obtain⟨rfl,rfl,rfl⟩:=f;rw[n,o,p]
theorem lvs_of_laid{W:World}{d:List (String×DataW Unit)}(z:d=[("platen/parse.levels",Rows.laid_platen_parse_levels)])(h:laidMet prog d W):Lvs W:=by
 subst z;obtain⟨ps,⟨B,F,e,A,D,E,g,r,s,p,_,_⟩,_⟩:=h;obtain rfl:=Option.some.inj (gLev.symm.trans g);obtain rfl:=Option.some.inj (tLev.symm.trans r);obtain⟨l,m,_,w,v,C,q⟩:=DataW.trod_array underlying275 p;simp only[Prod.mk.injEq] at w;have c:=w.1;have u:l.map (·.1)=(List.range 10).map (λi=>(DataW.agg [.lit (.int .i64 (tbl.getD (i*3) 0)),.lit (.int .i64 (tbl.getD (i*3+1) 0)),.lit (.int .i64 (tbl.getD (i*3+2) 0))]:DataW Unit)):=by
  unfold Rows.laid_platen_parse_levels at c;injection c with c
  rw[<-c];rfl
 have a:=λj=>World.var?_cell g s j
 have f:∀i,i<10->(e.toList.drop (i*3)).take 3=[.int .i64 (tbl.getD (i*3) 0),.int .i64 (tbl.getD (i*3+1) 0),.int .i64 (tbl.getD (i*3+2) 0)]:=λi hi=>by
  have o:=q i hi;rw[pt] at o;have x:l[i]? =some l[i]:=qE (by omega);rw[x] at o;refine xY o ?_
  have n:(l.map (·.1))[i]? =some (l[i]).1:=(by rw[Am,x];rfl);rw[u,Am,Bj hi] at n;injection n with n
  exact n.symm
 have b:∀i k,i<10->k<3->e[i*3+k]? =[Value.int .i64 (tbl.getD (i*3) 0),.int .i64 (tbl.getD (i*3+1) 0),.int .i64 (tbl.getD (i*3+2) 0)][k]? :=λi k hi y=>by
  rw[<-f i hi,AD,A7 y,Bm,BM]
 exact⟨λi hi=>by have:=a (i*3);rw[show i*3=i*3+0 from rfl,b i 0 hi (by omega)] at this;exact this,λi hi=>by have:=a (i*3+1);rw[b i 1 hi (by omega)] at this;exact this,λi hi=>by have:=a (i*3+2);rw[b i 2 hi (by omega)] at this;exact this⟩
theorem JA(i:Nat)(hi:i<10):tbl.getD (i*3) 0=((Q.lv i).d:Int)/\tbl.getD (i*3+1) 0=((Q.lv i).n:Int)/\tbl.getD (i*3+2) 0=((Q.lv i).z:Int):=by
 have a:i=0\/i=1\/i=2\/i=3\/i=4\/i=5\/i=6\/i=7\/i=8\/i=9:=(by omega);rcases a with rfl|rfl|rfl|rfl|rfl|rfl|rfl|rfl|rfl|rfl<;>exact⟨rfl,rfl,rfl⟩
theorem uv(i:Nat)(w:World)(hi:i<=9)(H:Lvs w):
 Calls prog 153 #[.int .i64 i] w λe w'=>e=.returned (.tuple #[.int .i64 (Q.lv i).d,.int .i64 (Q.lv i).n,.int .i64 (Q.lv i).z,.bool true])/\Below w.heap.size w w':=by
 have c0:=H.at0 i (by omega);have c1:=H.at1 i (by omega);have g:=H.at2 i (by omega);obtain⟨h,j,k⟩:=JA i (by omega);rw[h] at c0;rw[j] at c1;rw[k] at g;obtain⟨d,a⟩:∃d:Int,((Q.lv i).d:Int)=d:=⟨_,rfl⟩
 obtain⟨n,b⟩:∃d:Int,((Q.lv i).n:Int)=d:=⟨_,rfl⟩
 obtain⟨z,c⟩:∃d:Int,((Q.lv i).z:Int)=d:=⟨_,rfl⟩
 rw[a,b,c];rw[a] at c0;rw[b] at c1;rw[c] at g;have l:decide ((i:Int)<0)=false:=qF (by omega);have m:decide (10<=(i:Int))=false:=qF (by omega);clear a b c h j k H;go_enter func153,ntmps153;go_wp2_with fail
 go_quiet (fail)
 go_wp2_with fail;exact bodyPost_ret (v:=.tuple #[.int .i64 d,.int .i64 n,.int .i64 z,.bool true]) (by simp[results,results153,go_sem]) rfl ⟨rfl,aj (qL) _⟩
theorem dA(w:World)(a:Addr)(u:Value):w.grownBy (w.setCell a u) (some a.block):=
 ⟨rfl,rfl,rfl,by simp[World.setCell],λk b g=>Below.heap_setCell _ _ _ _ (λe=>g (by rw[e]))⟩
theorem KT.new{F:Nat}{w w':World}(h:KT F w w'){g:Nat}(c:w.heap.size<=g)(o:Nat)(v:Value):KT F w (w'.setCell ⟨g,o,none⟩ v):=λi cs T z q a b=>by
 have hi:=(qW.1 q).1;exact(Below.heap_setCell _ _ _ _ (λe=>by have e':i=g:=e;omega)).trans (h i cs T z q a b)
open Go.Maps Go.WideElems Go.MapKept in
theorem Fd.off{w w':World}{B F:Nat}{s:ByteArray}{L:List Nat}{la:Int}(H:Fd w B F s L la){g:Nat}{cs:Array Value}{T:TypeId}{z:Nat×Nat}(f:w.heap[g]? =some (.cells cs T z))(R:T≠ 3)(Q:g≠F)(h:w.grownBy w' (some g)):Fd w' B F s L la:=by
 obtain⟨b,base,D,J,m,K,M,N,O,P⟩:=H.own;have r:some g≠some F:=λe=>Q (by injection e)
 have i:=h.block F H.lt (λe=>r e.symm);have p:∀o x,w.cell? ⟨F,o,none⟩=some x->w'.cell? ⟨F,o,none⟩=some x:=λo x q=>(World.cell?_of_block (w:=w) (a:=⟨F,o,none⟩) i).trans q
 refine⟨p 0 _ H.c0,p 1 _ H.c1,(World.frozen?_of_block (w:=w) (a:=⟨F,1,none⟩) i).trans H.fz,⟨b,base,D,p 2 _ J,?_,K,M,qK N h.size,O,P⟩,H.base,H.rise,H.most,H.len⟩;refine m.kept h (λe=> ?_) (λC clock j x U=> ?_)
 · obtain⟨C,clock,j,_⟩:=id m
   injection e with e
   rw[e,f] at j;cases j
 · obtain⟨l,d,n,E,_⟩:=id m
   obtain⟨rfl,rfl⟩:l=C/\d=clock:=by rw[n] at j;simpa using j
   cases c:x.val.ownBlock with
   |none=>exact Or.inl rfl
   |some g'=>
    refine Or.inr (λk=> ?_);obtain⟨y,V⟩:=E.reads x U;obtain⟨X,A,_⟩:=rd_val V;obtain⟨Y,u,_⟩:=rowElem_inv A;injection k with k
    subst k;rcases u.1.2 with⟨v,_⟩|⟨W,G,I,v,_,S,_⟩
    · rw[v] at c;cases c
    · rw[v] at c
      simp[Value.ownBlock] at c;subst c;rw[S] at f;injection f with f
      injection f with _ f _
      exact R f.symm
def Fk(w:World)(B F:Nat)(s:ByteArray)(k:Nat):Prop:=Fd w B F s (List.range k) ((k:Int) - 1)
theorem Fk.below{w w':World}{B F k:Nat}{s:ByteArray}(h:Fk w B F s k)(a:Below w.heap.size w w'):Fk w' B F s k:=Fd.below h a
theorem uh:(prog.info? 143).map (λi=>i.size)=some 2:=by kernel_rfl
def Lk(w:World)(g:Nat)(r:Lv)(F:Nat):Prop:=w.heap[g]? =some (.cells #[.int .i64 r.d,.int .i64 r.n,.int .i64 r.z,.pointer (some ⟨F,0,none⟩)] 236 (0,0))
section
variable {w w':World} {g F:Nat} {r:Lv}
theorem Lk.at0(h:Lk w g r F):w.cell? ⟨g,0,none⟩=some (.int .i64 r.d):=by unfold Lk at h;simp[World.cell?,h]
theorem Lk.at1(h:Lk w g r F):w.cell? ⟨g,1,none⟩=some (.int .i64 r.n):=by unfold Lk at h;simp[World.cell?,h]
theorem Lk.at2(h:Lk w g r F):w.cell? ⟨g,2,none⟩=some (.int .i64 r.z):=by unfold Lk at h;simp[World.cell?,h]
theorem Lk.at3(h:Lk w g r F):w.cell? ⟨g,3,none⟩=some (.pointer (some ⟨F,0,none⟩)):=by unfold Lk at h;simp[World.cell?,h]
theorem Lk.lt(h:Lk w g r F):g<w.heap.size:=(qW.1 h).1
theorem Lk.keptT(h:Lk w g r F)(b:KT F w w')(a:g≠F):Lk w' g r F:=b g _ _ _ h (by decide) a
end
def Mc(w:World)(g:Nat)(x y:Int):Prop:=w.heap[g]? =some (.cells #[.int .i64 x,.int .i64 y] 143 (0,0))
section
variable {w w':World} {g F:Nat} {x y:Int}
theorem Mc.at0(h:Mc w g x y):w.cell? ⟨g,0,none⟩=some (.int .i64 x):=by unfold Mc at h;simp[World.cell?,h]
theorem Mc.at1(h:Mc w g x y):w.cell? ⟨g,1,none⟩=some (.int .i64 y):=by unfold Mc at h;simp[World.cell?,h]
theorem Mc.free(h:Mc w g x y)(i:Nat):w.frozen? ⟨g,i,none⟩=false:=by unfold Mc at h;simp[World.frozen?,h]
theorem Mc.lt(h:Mc w g x y):g<w.heap.size:=(qW.1 h).1
theorem Mc.of_block(h:Mc w g x y)(e:w'.heap[g]? =w.heap[g]?):Mc w' g x y:=e.trans h
theorem Mc.keptT(h:Mc w g x y)(b:KT F w w')(a:g≠F):Mc w' g x y:=b g _ _ _ h (by decide) a
theorem Mc.set(h:Mc w g x y)(u v:Int):Mc ((w.setCell ⟨g,0,none⟩ (.int .i64 u)).setCell ⟨g,1,none⟩ (.int .i64 v)) g u v:=by
 have a:(w.setCell ⟨g,0,none⟩ (.int .i64 u)).heap[g]? =some (.cells #[.int .i64 u,.int .i64 y] 143 (0,0)):=by
  unfold Mc at h;rw[setCell_eq_setRow w g 0 #[.int .i64 x,.int .i64 y] 143 (0,0) (.int .i64 u) h];exact setRow_heap w g #[.int .i64 x,.int .i64 y] #[.int .i64 u,.int .i64 y] 143 (0,0) h
 rw[setCell_eq_setRow _ g 1 #[.int .i64 u,.int .i64 y] 143 (0,0) (.int .i64 v) a];exact setRow_heap _ g #[.int .i64 u,.int .i64 y] #[.int .i64 u,.int .i64 v] 143 (0,0) a
end
theorem look_any{W:World}{B F:Nat}{s:ByteArray}{k:Nat}(H:Fk W B F s k)(r:Lv)(t:Nat)(over:Int)(a6:k<=t)(ac:t<=s.size)(hd:r.d<=1000000):
 Calls prog 193 #[.agg #[.int .i64 r.d,.int .i64 r.n,.int .i64 r.z,.pointer (some ⟨F,0,none⟩)],.int .i64 t,.int .i64 over] W λe w'=>e=.returned (.agg #[.int .i64 ((mt s r t over).1:Nat),.int .i64 ((mt s r t over).2:Nat)])/\Fk w' B F s t/\Below B W w'/\KT F W w':=by
 obtain⟨X,Y,i⟩:∃X Y,mt s r t over=(X,Y):=⟨_,_,rfl⟩
 rw[i];have HF:=qH (show ∀w,Fk w B F s t->Calls prog 228 #[.pointer (some ⟨F,0,none⟩),.int .i64 t,.int .i64 r.d,.int .i64 r.n,.int .i64 over] w λe w'=>e=.returned (.agg #[.int .i64 (X:Nat),.int .i64 (Y:Nat)])/\Below w.heap.size w w' from λw h=>by
  have:=find_any h t (r.d:Int) (r.n:Int) over (by omega);unfold mt at i;rw[i] at this;exact this)
 have a8:=H.len;have a7:=H.lt;have a5:=H.base;have l:Below W.heap.size W ((W.alloc (.cells #[.int .i64 r.d,.int .i64 r.n,.int .i64 r.z,.pointer (some ⟨F,0,none⟩)] 236)).alloc (.cells #[.int .i64 0,.int .i64 0] 143)):=((Below.refl _ W).alloc qR _).alloc (by simp) _;have D:=Fk.below H l;have C:Lk ((W.alloc (.cells #[.int .i64 r.d,.int .i64 r.n,.int .i64 r.z,.pointer (some ⟨F,0,none⟩)] 236)).alloc (.cells #[.int .i64 0,.int .i64 0] 143)) W.heap.size r F:=old_at _ (new_at _ _);have L:Mc ((W.alloc (.cells #[.int .i64 r.d,.int .i64 r.n,.int .i64 r.z,.pointer (some ⟨F,0,none⟩)] 236)).alloc (.cells #[.int .i64 0,.int .i64 0] 143)) (W.heap.size+1) 0 0:=by
  have:=new_at (W.alloc (.cells #[.int .i64 r.d,.int .i64 r.n,.int .i64 r.z,.pointer (some ⟨F,0,none⟩)] 236)) (.cells #[.int .i64 0,.int .i64 0] 143);rw[World.size_alloc] at this;exact this
 have HL:=qH (yI D);have a4:=qH D;have T:=qH (l.mono (show B<=W.heap.size by omega));have V:=qH (KT.of_below (F:=F) l);obtain⟨a2,Z⟩:=qh2 C L;have a3:=C.at3;have e1:(k:Int) - 1+1=(k:Int):=(by omega);have M:W.heap.size≠F:=(by omega);have m:W.heap.size+1≠F:=(by omega);have HN:=qH (And.intro M m);obtain⟨d,n,z⟩:=r;simp only at hd ⊢;clear H i D l C L M m;go_enter func193,ntmps193;go_wp2_with (go_at_call 226;(with_reducible refine HL.o.mono ?_);rintro e w2 ⟨rfl,rfl⟩);clear a3 e1
 go_loopw [7] (λx wr=> ∃j:Nat,k<=j/\j<=t/\x=.int .i64 j/\Fk wr B F s j/\Below B W wr/\KT F W wr/\Lk wr W.heap.size ⟨d,n,z⟩ F/\Mc wr (W.heap.size+1) 0 0) (λx _=>t - (intOf x).toNat)
 case atStart=>exact⟨k,qR,a6,rfl,a4.o,T.o,V.o,a2.o,Z.o⟩
 case round=>
  obtain⟨j,a9,aa,rfl,I,P,Q,E,R⟩:=hrel;have a3:=E.at3;by_cases ab:j<t
  · have HP:=qH (Jg I j (by omega) (by omega) (λp hp=>Ca.1 hp))
    obtain⟨S,U,HR,O⟩:=qh4 P Q E R;clear I P Q E R;go_wp2_with (go_at_call 227;(with_reducible refine HP.o.mono ?_);rintro e w2 ⟨rfl,J,a,K⟩;have u:=qH J;have q:=qH (S.o.trans a);have c:=qH K;clear J a K);go_roundw
    case rel=>exact⟨j+1,by omega,by omega,by go_num,by
     have:=u.o;unfold Fk;rw[Bi,show(((j+1:Nat):Int) - 1)=(j:Int) by omega];exact this,q.o,U.o.trans c.o,HR.o.keptT c.o HN.o.1,O.o.keptT c.o HN.o.2⟩
    case measure=>(simp[intOf];try omega)
  · obtain rfl:j=t:=by omega
    have a0:=E.at0;have a1:=E.at1;have HP:=qH (HF.o wr I);obtain⟨A,S,U,O⟩:=qh4 I P Q R;clear I P Q E R HF;go_wp2_with (go_at_call 228;(with_reducible refine HP.o.mono ?_);rintro e w2 ⟨rfl,a⟩;have b:=O.o.of_block (a.block _ O.o.lt);have m0:=b.at0;have m1:=b.at1;have ad:=b.free 0;have ae:=b.free 1;have G:=qH b;have u:=qH (A.o.below a);have c:=qH (U.o.trans (KT.of_below a));have q:=qH (S.o.trans (a.mono (by have:=A.o.base;have:=A.o.lt;omega)));clear a b);have N:W.heap.size<=W.heap.size+1:=Cw _;have HS:=qH (G.o.set (X:Int) (Y:Int));have hg:=(dA w2 ⟨W.heap.size+1,0,none⟩ (.int .i64 (X:Int))).trans (dA _ ⟨W.heap.size+1,1,none⟩ (.int .i64 (Y:Int)));refine bodyPost_ret (v:=.agg #[.int .i64 (X:Int),.int .i64 (Y:Int)]) (results_cell_row rfl _ _ (W.heap.size+1) _ _ _ _ rfl HS.o underlying143 rfl uh) rfl ⟨rfl,Fd.off u.o G.o (by decide) HN.o.2 hg,(q.o.setCell (p:=⟨W.heap.size+1,0,none⟩) (by show B<=W.heap.size+1;omega) _).setCell (p:=⟨W.heap.size+1,1,none⟩) (by show B<=W.heap.size+1;omega) _,(c.o.new N 0 _).new N 1 _⟩
end V.Px
namespace V.Px
open Go Go.RowKit M
open Q (Owq wpList_tq ty_ne)
structure P10(W wr:World)(B F Bx:Nat)(s:ByteArray)(r:Lv)(v:Value)(L:List Tk)(k:Nat):Prop where
 fd:Fk wr B F s k
 ow:Owq W.heap.size wr v L
 bx:Lk wr Bx r F
 bl:Below B W wr
 hF:F<W.heap.size
 hx:W.heap.size<=Bx
section
variable {W wr w':World} {B F Bx k:Nat} {s:ByteArray} {r:Lv} {v v':Value} {L L':List Tk}
theorem P10.size(h:P10 W wr B F Bx s r v L k):W.heap.size<=wr.heap.size:=h.bl.size
theorem P10.hB(h:P10 W wr B F Bx s r v L k):B<=W.heap.size:=Nat.le_of_lt (CI h.fd.base h.hF)
theorem P10.below(h:P10 W wr B F Bx s r v L k)(a:Below wr.heap.size wr w'):P10 W w' B F Bx s r v L k:=
 ⟨h.fd.below a,h.ow.at λg b=>a.block g (h.ow.lt g b).2,(a.block _ h.bx.lt).trans h.bx,h.bl.trans (a.mono (qK h.hB h.size)),h.hF,h.hx⟩
theorem P10.alloc(h:P10 W wr B F Bx s r v L k)(o:Obj):P10 W (wr.alloc o) B F Bx s r v L k:=h.below ((Below.refl _ _).alloc qR o)
theorem P10.app(h:P10 W wr B F Bx s r v L k)(a:wr.grownBy w' v.ownBlock)(j:Owq W.heap.size w' v' L')(l:Below W.heap.size wr w'):P10 W w' B F Bx s r v' L' k:=by
 cases b:v.ownBlock with
 |none=>
  rw[b] at a;have c:Below wr.heap.size wr w':=(Below.refl _ _).grown a qR (λk e=>by cases e);have:=h.below c;exact⟨this.fd,j,this.bx,this.bl,h.hF,h.hx⟩
 |some g=>
  rw[b] at a;obtain⟨cs,i⟩:=h.ow.ty g b;have m:=h.ow.lt g b;have f:g≠F:=λe=>by have:=h.hF;omega
  have d:g≠Bx:=ty_ne i h.bx (by decide);exact⟨Fd.off h.fd i (by decide) f a,j,(a.block Bx h.bx.lt (λe=>d (by injection e with e;exact e.symm))).trans h.bx,h.bl.trans (l.mono h.hB),h.hF,h.hx⟩
theorem P10.look{t:Nat}(h:P10 W wr B F Bx s r v L k)(hf:Fk w' B F s t)(e:Below B wr w')(c:KT F wr w'):P10 W w' B F Bx s r v L t:=by
 have d:=h.hF;have f:=h.hx;refine⟨hf,h.ow.at λg b=> ?_,h.bx.keptT c (by omega),h.bl.trans e,d,f⟩;obtain⟨cs,a⟩:=h.ow.ty g b;have i:=h.ow.lt g b;rw[a];exact c g _ _ _ a (by decide) (by omega)
theorem P10.mb{Mb:Nat}{x y:Int}(h:P10 W wr B F Bx s r v L k)(a:Mc wr Mb x y):Mb≠Bx/\v.ownBlock≠some Mb:=by
 refine⟨ty_ne a h.bx (by decide),λe=> ?_⟩;obtain⟨cs,b⟩:=h.ow.ty Mb e;exact ty_ne b a (by decide) rfl
theorem P10.set{Mb:Nat}{x y:Int}(h:P10 W wr B F Bx s r v L k)(c:Mc wr Mb x y)(d:W.heap.size<=Mb)(u z:Int):P10 W ((wr.setCell ⟨Mb,0,none⟩ (.int .i64 u)).setCell ⟨Mb,1,none⟩ (.int .i64 z)) B F Bx s r v L k:=by
 obtain⟨f,i⟩:=h.mb c;have j:=h.hF;have b:=h.hB;have e:∀g,g≠Mb->((wr.setCell ⟨Mb,0,none⟩ (.int .i64 u)).setCell ⟨Mb,1,none⟩ (.int .i64 z)).heap[g]? =wr.heap[g]? :=λg a=>(Below.heap_setCell _ _ _ _ a).trans (Below.heap_setCell _ _ _ _ a)
 have a:=(dA wr ⟨Mb,0,none⟩ (.int .i64 u)).trans (dA _ ⟨Mb,1,none⟩ (.int .i64 z));exact⟨Fd.off h.fd c (by decide) (by omega) a,h.ow.at λg a=>e g (λq=>i (by rw[a,q])),(e Bx f.symm).trans h.bx,(h.bl.setCell (p:=⟨Mb,0,none⟩) (qK b d) _).setCell (p:=⟨Mb,1,none⟩) (qK b d) _,j,h.hx⟩
theorem Mc.app{Mb:Nat}{x y:Int}(a:Mc wr Mb x y)(h:P10 W wr B F Bx s r v L k)(b:wr.grownBy w' v.ownBlock):Mc w' Mb x y:=
 a.of_block (b.block Mb a.lt λe=>(h.mb a).2 e.symm)
end
theorem jW{P:Program}{a:Act}{w:World}{Q:Exit->Act->World->Prop}{c R:Code}(l:Nat)(J:Act->World->Prop)(μ:Act->World->Nat)(hf:findLabel c l=some (Code.skip.seq R))
 (d:(∀a w,J a w->R.wp P (Exit.jump l J Q) a w)->c.wp P (Exit.jump l J Q) a w)
 (b:∀a w,J a w->R.wp P (Exit.jump l (λa' w'=>J a' w'/\μ a' w'<μ a w) Q) a w):(Code.scope c).wp P Q a w:=by
 refine wp_scope_jumps l J μ hf (d λa w f=>Code.wp_mono ?_ (b a w f)) (λa w f=>wp_seq (wp_skip (b a w f)));intro e a w h;cases e with
 |goto l=>exact⟨h.1,h.2.1⟩
 |normal=>exact h
 |exit id=>exact h
 |ret=>exact h
 |panic ch=>exact h
 |outgrown=>exact h
theorem Fu{W:World}{B F:Nat}{s:ByteArray}(H:Fk W B F s 0)(r:Lv)(q:Nat)(hq:q<=s.size)(hd:r.d<=1000000):
 Calls prog 156 #[.agg #[.int .i64 r.d,.int .i64 r.n,.int .i64 r.z,.pointer (some ⟨F,0,none⟩)],.string s,.int .i64 q] W λe w'=> ∃v,e=.returned v/\Owq W.heap.size w' v (G s r q (0,0))/\Below B W w':=by
 obtain⟨T,hT⟩:∃T,G s r q (0,0)=T:=⟨_,rfl⟩
 have ar:T.length<=s.size:=(by rw[<-hT];have:=G_len s r q (0,0) (λh=>absurd rfl h);omega);rw[hT];have aL:=H.len;have aA:=H.lt
 have h0:P10 W (W.alloc (.cells #[.int .i64 r.d,.int .i64 r.n,.int .i64 r.z,.pointer (some ⟨F,0,none⟩)] 236)) B F W.heap.size s r (.slice none 0 0) [] 0:=
  have hb:Below W.heap.size W (W.alloc (.cells #[.int .i64 r.d,.int .i64 r.n,.int .i64 r.z,.pointer (some ⟨F,0,none⟩)] 236)):=qL
  ⟨H.below hb,Q.Owq.nil _ _,new_at _ _,hb.mono (by have:=H.base;omega),aA,qR⟩
 obtain⟨H0,HT,ap⟩:=qh3 h0 hT ar;clear h0 hT ar H;go_enter func156,ntmps156;go_wp2_with fail
 go_loopw [2,7] (λx v wr=> ∃ (k k':Nat) (L:List Tk),k<=s.size/\x=.int .i64 k/\k'<=k/\P10 W wr B F W.heap.size s r v L k'/\L++G s r k (0,0)=T) (λx _ _=>s.size - (intOf x).toNat)
 case atStart=>exact⟨q,0,[],hq,rfl,qZ,H0.o,HT.o⟩
 case round=>
  obtain⟨k,k',L,hk,rfl,aC,hS,S⟩:=hrel;have aJ:L.length<=2000000:=(by have:=ap.o;rw[<-S,qA] at this;omega);by_cases a9:k<s.size
  · have HS:=qH hS
    have aa:=qH S;clear hS S;go_wp2_with fail;refine jW 0 (λa' w'=> ∃ (i k3 m1 j Mb:Nat) (v:Value) (P:List Tk),(∃ (u9 u10 u11 u12 u13 u14 u15 u16 u17 u18 u19 u20 u21 u22 u23 u24 u25 u26 u27 u28 u29 u30 u31 u32 u33 u34 u35 u36 u37 u38 u39 u40 u41 u42 u43 u44 u45 u46 u47 u48 u49 u50 u51 u52 u53 u54 u55 u56 u57 u58 u59 u60 u61 u62 u63 u64 u65:Value),a'={tmps:= #[.agg #[.int .i64 r.d,.int .i64 r.n,.int .i64 r.z,.pointer (some ⟨F,0,none⟩)],.string s,.int .i64 i,.pointer (some ⟨W.heap.size,0,none⟩),undef,undef,.slice none 0 0,v,.pointer (some ⟨Mb,0,none⟩),u9,u10,u11,u12,u13,u14,u15,u16,u17,u18,u19,u20,u21,u22,u23,u24,u25,u26,u27,u28,u29,u30,u31,u32,u33,u34,u35,u36,u37,u38,u39,u40,u41,u42,u43,u44,u45,u46,u47,u48,u49,u50,u51,u52,u53,u54,u55,u56,u57,u58,u59,u60,u61,u62,u63,u64,u65,undef],defers:=[]})/\i<s.size/\k3<=i+1/\P10 W w' B F W.heap.size s r v P k3/\Mc w' Mb m1 j/\W.heap.size<=Mb/\Mt s i (m1,j)/\k<=i/\P++G s r i (m1,j)=T) (λa' _=>s.size - (intOf (a'.tmps.getD 2 undef)).toNat) rfl ?first ?pass
    case pass=>
     rintro a' w2 ⟨i,k3,m1,j,Mb,v,P,⟨u9,u10,u11,u12,u13,u14,u15,u16,u17,u18,u19,u20,u21,u22,u23,u24,u25,u26,u27,u28,u29,u30,u31,u32,u33,u34,u35,u36,u37,u38,u39,u40,u41,u42,u43,u44,u45,u46,u47,u48,u49,u50,u51,u52,u53,u54,u55,u56,u57,u58,u59,u60,u61,u62,u63,u64,u65,rfl⟩,A,U,D,R,au,u,V,a7⟩;have aI:P.length<=2000000:=(by have:=ap.o;rw[<-a7,qA] at this;omega);have aK:3<=m1:=u.len.1;have aD:m1<=258:=u.len.2;have ab:i+m1<=s.size:=u.fits;have a0:=D.bx.at0;have a1:=D.bx.at1;have a2:=D.bx.at2;have a3:=D.bx.at3;have c0:=R.at0;have c1:=R.at1;obtain⟨K,HM,af⟩:=qh3 D R a7;obtain⟨kn,J⟩:∃kn,i+1=kn:=⟨_,rfl⟩
     have aH:(i:Int)+1=(kn:Int):=(by omega);have Z:(m1,j).1≠0:=(by simp only;omega);have h1:i+1<s.size:=(by omega);have aG:kn<=2000000:=(by omega);by_cases hz:m1<r.z
     · have aF:decide (m1<r.z)=true:=q9T hz
       have N:=look_any D.fd r kn (m1:Int) (by omega) (by omega) hd;obtain⟨M,Y2,b⟩:∃X Y,mt s r kn (m1:Int)=(X,Y):=⟨_,_,rfl⟩
       rw[b] at N;have ad:=qH N;have I:(m1,j).1<r.z/\i+1<s.size:=⟨hz,h1⟩;by_cases a8:M=0
       · have aE:decide (0<M)=false:=qF (by omega)
         have C:=G_stay (s:=s) (r:=r) (k:=i) (m:=(m1,j)) A Z I (by rw[J];show(mt s r kn (m1:Int)).1=0;rw[b];exact a8);have HG:=qH (show(P++[mtk (m1,j)])++G s r (i+m1) (0,0)=T from by rw[qD];have:=af.o;rw[C] at this;exact this);have l:=qH (And.intro A (And.intro ab (And.intro U (And.intro J V))));clear C a8 I N b D R a7 u Z hz h1 A ab J V U
         go_wp2_with (first
          |(go_at_call 193;(with_reducible refine ad.o.mono ?_);rintro e w5 ⟨rfl,f5,b5,k5⟩;have a:=HM.o.keptT k5 (by have:=K.o.hF;omega);have p:=qH (K.o.look f5 b5 k5);have n0:=a.at0;have n1:=a.at1;have aj:∀o:Obj,(w5.alloc o).cell? ⟨Mb,0,none⟩=some (.int .i64 m1):=λo=>Mc.at0 (a.of_block (Below.heap_alloc _ o _ a.lt));have ak:∀o:Obj,(w5.alloc o).cell? ⟨Mb,1,none⟩=some (.int .i64 j):=λo=>Mc.at1 (a.of_block (Below.heap_alloc _ o _ a.lt));have ae:=qH a;clear f5 b5 k5 a)
          |(at_builtin;refine wpList_tq rfl (.tmp 54) (.tmp 60) rfl W.heap.size _ P rfl ((p.o.alloc (.cells #[.int .i64 M,.int .i64 Y2] 143)).ow.alloc _) (w5.heap.size+1) 1 0 (m1:Int) (j:Int) rfl ⟨by simp,by simp,by simp⟩ (by omega) (by have:=(p.o.alloc (.cells #[.int .i64 M,.int .i64 Y2] 143)).bl.size;simp at this ⊢;omega) ?_;intro v' w' o' g' b';have a4:=(p.o.alloc (.cells #[.int .i64 M,.int .i64 Y2] 143)).alloc (.cells #[.int .u8 0,.int .i64 (m1:Int),.int .i64 (j:Int)] 139);have c:=Mc.app (Mb:=Mb) (x:=(m1:Int)) (y:=(j:Int)) (old_at _ (old_at _ ae.o)) a4 g';have t0:=c.at0;clear c;have a5:=qH (((p.o.alloc (.cells #[.int .i64 M,.int .i64 Y2] 143)).alloc _).app g' o' b');clear o' g' b' a4 aj ak))
         simp only[Exit.jump];go_wp2_with fail;go_roundw
         case rel=>exact⟨i+m1,kn,P++[mtk (m1,j)],l.o.2.1,by go_num,by have:=l.o;omega,a5.o,HG.o⟩
         case measure=>(have E:=l.o;have av:=E.1;have aw:=E.2.1;have ax:=E.2.2.2.2;clear E;simp[intOf];try omega)
       · have aE:decide (0<M)=true:=q9T (by omega)
         have ay:=qH (pw A);have C:=G_lazy (s:=s) (r:=r) (k:=i) (m:=(m1,j)) A Z I (by rw[J];show(mt s r kn (m1:Int)).1≠0;rw[b];exact a8);rw[J] at C;have aq:G s r i (m1,j)=lit s i::G s r kn (M,Y2):=(by rw[C];show _::G s r kn (mt s r kn (m1:Int))=_;rw[b]);have HG:=qH (show(P++[lit s i])++G s r kn (M,Y2)=T from by rw[qD];have:=af.o;rw[aq] at this;exact this)
         have ao:=qH (show Mt s kn (M,Y2) from by
          have:=(mt_is (s:=s) (r:=r) (k:=kn) (over:=(m1:Int)) (by rw[b];exact a8)).1;rw[b] at this;exact this)
         have l:=qH (And.intro U (And.intro J (And.intro V h1)));clear C aq a8 I N b D R a7 u Z hz U V h1
         go_wp2_with (first
          |(go_at_call 193;(with_reducible refine ad.o.mono ?_);rintro e w5 ⟨rfl,f5,b5,k5⟩;have a:=HM.o.keptT k5 (by have:=K.o.hF;omega);have p:=qH (K.o.look f5 b5 k5);have n0:=a.at0;have n1:=a.at1;have aj:∀o:Obj,(w5.alloc o).cell? ⟨Mb,0,none⟩=some (.int .i64 m1):=λo=>Mc.at0 (a.of_block (Below.heap_alloc _ o _ a.lt));have ak:∀o:Obj,(w5.alloc o).cell? ⟨Mb,1,none⟩=some (.int .i64 j):=λo=>Mc.at1 (a.of_block (Below.heap_alloc _ o _ a.lt));have ae:=qH a;clear f5 b5 k5 a)
          |(at_builtin;refine wpList_tq rfl (.tmp 44) (.tmp 49) rfl W.heap.size _ P rfl ((p.o.alloc (.cells #[.int .i64 M,.int .i64 Y2] 143)).ow.alloc _) (w5.heap.size+1) 1 ((s[i]'A).toNat:Int) 0 0 rfl ⟨by simp,by simp,by simp⟩ (by omega) (by have:=p.o.bl.size;simp;omega) ?_;intro v' w' o' g' b';have ac:=((p.o.alloc (.cells #[.int .i64 M,.int .i64 Y2] 143)).alloc (.cells #[.int .u8 ((s[i]'A).toNat:Int),.int .i64 0,.int .i64 0] 139));have ai:=Mc.app (Mb:=w5.heap.size) (x:=(M:Int)) (y:=(Y2:Int)) (old_at _ (new_at w5 _)) ac g';have c:=Mc.app (Mb:=Mb) (x:=(m1:Int)) (y:=(j:Int)) (old_at _ (old_at _ ae.o)) ac g';have u0:=ai.at0;have u1:=ai.at1;have t0:=c.at0;have t1:=c.at1;have aM:=c.free 0;have aN:=c.free 1;have am:=qH c;have a5:=qH (ac.app g' o' b');clear o' g' b' ac ai c aj ak))
         go_step3
         refine⟨rfl,⟨kn,kn,M,Y2,Mb,v',P++[lit s i],⟨_,_,_,_,_,_,_,_,_,_,_,_,_,_,_,_,_,_,_,_,_,_,_,_,_,_,_,_,_,_,_,_,_,_,_,_,_,_,_,_,_,_,_,_,_,_,_,_,_,_,_,_,_,_,_,_,_,rfl⟩,by have:=l.o;omega,by omega,by have:=a5.o;rw[ay.o] at this;exact this.set am.o au _ _,am.o.set _ _,au,ao.o,by have:=l.o;omega,HG.o⟩,?_⟩;simp[intOf];omega
     · have aF:decide (m1<r.z)=false:=qF hz
       have C:=G_take (s:=s) (r:=r) (k:=i) (m:=(m1,j)) A Z (λq=>hz q.1);have HG:=qH (show(P++[mtk (m1,j)])++G s r (i+m1) (0,0)=T from by rw[qD];have:=af.o;rw[C] at this;exact this);have l:=qH (And.intro A (And.intro ab (And.intro U (And.intro J V))));clear C D R a7 u Z hz h1 A ab J V U;go_wp2_with (at_builtin;refine wpList_tq rfl (.tmp 54) (.tmp 60) rfl W.heap.size _ P rfl (K.o.ow.alloc _) w2.heap.size 1 0 (m1:Int) (j:Int) rfl ⟨by simp,by simp,by simp⟩ (by omega) (by have:=K.o.bl.size;simp at this ⊢;omega) ?_;intro v' w' o' g' b';have a4:=K.o.alloc (.cells #[.int .u8 0,.int .i64 (m1:Int),.int .i64 (j:Int)] 139);have c:=Mc.app (Mb:=Mb) (x:=(m1:Int)) (y:=(j:Int)) (old_at _ HM.o) a4 g';have t0:=c.at0;clear c;have a5:=qH (a4.app g' o' b');clear o' g' b' a4);simp only[Exit.jump];go_wp2_with fail;go_roundw
       case rel=>exact⟨i+m1,k3,P++[mtk (m1,j)],l.o.2.1,by go_num,by have:=l.o;omega,a5.o,HG.o⟩
       case measure=>(have E:=l.o;have av:=E.1;have aw:=E.2.1;have ax:=E.2.2.2.2;clear E;simp[intOf];try omega)
    case first=>
     intro hp;have HP:=qH hp;have a0:=HS.o.bx.at0;have a1:=HS.o.bx.at1;have a2:=HS.o.bx.at2;have a3:=HS.o.bx.at3;have ah:=look_any HS.o.fd r k 2 aC hk hd;obtain⟨X,Y,ag⟩:∃X Y,mt s r k 2=(X,Y):=⟨_,_,rfl⟩
     rw[ag] at ah;obtain⟨al,a6⟩:=qh2 ah ag;have aB:=qH (pw a9);clear ah ag hp;by_cases hX:X=0
     · have e0:((X:Int)==0)=true:=by rw[AG];omega
       have hG:=G_lit (s:=s) (r:=r) (k:=k) (m:=(0,0)) a9 rfl (by rw[a6.o];exact hX);have HG:=qH (show(L++[lit s k])++G s r (k+1) (0,0)=T from by rw[qD];have:=aa.o;rw[hG] at this;exact this);clear hG hX
       go_wp2_with (first
        |(go_at_call 193;(with_reducible refine al.o.mono ?_);rintro e w4 ⟨rfl,f4,b4,k4⟩;have O:=qH (HS.o.look f4 b4 k4);clear f4 b4 k4)
        |(at_builtin;refine wpList_tq rfl (.tmp 20) (.tmp 25) rfl W.heap.size _ L rfl ((O.o.alloc (.cells #[.int .i64 X,.int .i64 Y] 143)).ow.alloc _) (w4.heap.size+1) 1 ((s[k]'a9).toNat:Int) 0 0 rfl ⟨by simp,by simp,by simp⟩ (by omega) (by have:=O.o.bl.size;simp;omega) ?_;intro v' w' o' g' b';have p:=qH (((O.o.alloc (.cells #[.int .i64 X,.int .i64 Y] 143)).alloc _).app g' o' b');clear o' g' b'))
       simp only[Exit.jump];go_wp2_with fail;go_roundw
       case rel=>exact⟨k+1,k,L++[lit s k],by omega,by go_num,by omega,by have:=p.o;rw[aB.o] at this;exact this,HG.o⟩
       case measure=>(simp[intOf];try omega)
     · have u:=(mt_is (s:=s) (r:=r) (k:=k) (over:=2) (by rw[a6.o];exact hX)).1
       rw[a6.o] at u;have hG:=G_look (s:=s) (r:=r) (k:=k) (m:=(0,0)) a9 rfl (by rw[a6.o];exact hX);rw[a6.o] at hG;have az:=qH (show L++G s r k (X,Y)=T from by rw[<-hG];exact aa.o);have an:=qH u;have e0:((X:Int)==0)=false:=(by rw[qN];omega);clear hG u hX;go_wp2_with (go_at_call 193;(with_reducible refine al.o.mono ?_);rintro e w4 ⟨rfl,f4,b4,k4⟩;have O:=qH (HS.o.look f4 b4 k4);clear f4 b4 k4)
       go_step3
       rename_i Qj Kj hK
       refine hK _ _ (HP.o _ _ ?_);exact⟨k,k,X,Y,w4.heap.size,_,L,⟨_,_,_,_,_,_,_,_,_,_,_,_,_,_,_,_,_,_,_,_,_,_,_,_,_,_,_,_,_,_,_,_,_,_,_,_,_,_,_,_,_,_,_,_,_,_,_,_,_,_,_,_,_,_,_,_,_,rfl⟩,a9,by omega,O.o.alloc _,new_at _ _,O.o.size,an.o,qR,az.o⟩
  · rw[G_end (by omega),Az] at S
    obtain⟨HS,aa⟩:=qh2 hS S;clear hS S;go_wp2_with fail;go_ret;exact⟨_,rfl,by rw[<-aa.o];exact HS.o.ow,HS.o.bl⟩
end V.Px
namespace V.Px
open Go Go.RowKit M
open Q (Owq lits lits_length)
theorem vH:∀L,Q.clq L=clt L
 |[]=>rfl
 |t::l=>by simp only[Q.clq,clt];rw[vH l]
theorem _root_.Go.Proofs.YthgilhebnlglkaaGreatDoor.V.IsTks.of_owq{w:World}{B:Nat}{v:Value}{L:List Tk}(h:Owq B w v L)(a:∀c∈L,c.ok)(b:L.length<=maxLen):∃A c,v=.slice A L.length c/\IsTks w A L.length L:=by
 unfold Q.Owq at h;rw[vH] at h;exact IsTks.of_own h a b
def TkR(W:World)(L:List Tk)(e:Ending)(w':World):Prop:=∃A c,e=.returned (.tuple #[.slice A L.length c,.int .i64 0])/\IsTks w' A L.length L/\L.length<=c/\Below W.heap.size W w'
theorem Gi{w:World}{B n c:Nat}{A:Option Addr}{L:List Tk}(h:Owq B w (.slice A n c) L):L.length<=c:=by
 obtain⟨_,d⟩:=h;rcases d with⟨a,b⟩|⟨g,e,cs,a,b,f,i,j,l,m⟩
 · omega
 · simp only[Value.slice.injEq] at a
   obtain⟨_,_,rfl⟩:=a;omega
def cutd(d:ByteArray):ByteArray:=d.extract (d.size - 32768) d.size
theorem vt(d:ByteArray):(cutd d).size=min d.size 32768:=by unfold cutd;rw[Ae];omega
theorem cutd_all{d:ByteArray}(h:d.size<=32768):cutd d=d:=by
 unfold cutd;rw[show d.size - 32768=0 by omega];exact Dm
theorem tokens_any(a b:ByteArray)(i:Nat)(W:World)(H:Lvs W)(hi:1<=i/\i<=9)(hd:a.size<=1000000)(ht:b.size<=1000000):
 Calls prog 111 #[.string a,.string b,.int .i64 i] W (TkR W (G (cutd a++b) (Q.lv i) (cutd a).size (0,0))):=by
 have U:=qH (uv i W hi.2 H);obtain⟨p,u,C⟩:=Q.lv_le i hi.2;generalize hr:Q.lv i=r at U p u C ⊢;have dT:decide (1048576<(b.size:Int))=false:=qF (by omega);have di:((i:Int)==0)=false:=(by rw[qN];omega);obtain⟨lo,D⟩:∃lo,a.size - 32768=lo:=⟨_,rfl⟩
 obtain⟨z,hz⟩:∃z:Int,(a.size:Int) - 32768=z:=⟨_,rfl⟩
 have a3:(if(0:Int)<z then z else 0)=(lo:Int):=(by split<;>omega);have a0:max (0:Int) z=(lo:Int):=(by omega);have a1:max z (0:Int)=(lo:Int):=(by omega);have Z:lo<=a.size:=(by omega);have a4:z<=1000000:=(by omega);have s2:a.size - lo+b.size<=9223372036854775807:=(by omega);have m:=vt a;obtain⟨ah,l⟩:∃ah,cutd a=ah:=⟨_,rfl⟩
 have a2:a.extract lo a.size=ah:=(by rw[<-l,<-D];rfl);rw[l] at m ⊢;generalize hq:ah.size=q at m ⊢;have I:(ah++b).size=ah.size+b.size:=AM;have s1:ah.size+b.size<=9223372036854775807:=(by omega);generalize hs:ah++b=s at I ⊢;have N:s.size<=1048576:=(by omega);have E:q<=s.size:=(by omega);have e5:(s.size:Int) - (b.size:Int)=(q:Int):=(by omega);have HN:=qH (λw=>new_any s w N);obtain⟨T,J⟩:∃T,G s r q (0,0)=T:=⟨_,rfl⟩
 have M:=qH (show ∀ (W:World) (B F:Nat),Fk W B F s 0->Calls prog 156 #[.agg #[.int .i64 r.d,.int .i64 r.n,.int .i64 r.z,.pointer (some ⟨F,0,none⟩)],.string s,.int .i64 q] W λe w'=> ∃v,e=.returned v/\Owq W.heap.size w' v T/\Below B W w' from λW B F h=>by
  have:=Fu h r q E p;rw[J] at this;exact this)
 have j:=qH (show(∀c∈T,c.ok)/\T.length<=maxLen from by
  rw[<-J];refine⟨λc hc=> ?_,?_⟩
  · obtain⟨_,h1,h2,h3⟩:=G_may s r q (0,0) (λh=>absurd rfl h) c hc
    exact Tk.ok_of h1 ⟨h2.1,by omega⟩ ⟨h3.1,by omega⟩
  · have:=G_len s r q (0,0) (λh=>absurd rfl h);unfold maxLen;omega)
 rw[J];clear D l J m hq I E p u C H hr hd ht;go_enter func111,ntmps111
 go_wp2_with (first
  |(go_at_call 153;(refine U.o.mono ?_);rintro e w1 ⟨rfl,V⟩;have P:=qH V;clear V)
  |(go_at_call 155;(refine(HN.o _).mono ?_);rintro e w2 ⟨F,rfl,hF,t,X⟩;have K:=qH (show Fk w2 w1.heap.size F s 0 from t);have R:=qbt P X;clear t X)
  |(go_at_call 156;(refine(M.o _ _ _ (K.o.below (qL))).mono ?_);rintro e w3 ⟨v,rfl,O,b3⟩;obtain⟨A,c,rfl,Y⟩:=IsTks.of_owq O j.o.1 j.o.2;have S:=qH (And.intro Y (Gi O));have B3:=qH ((R.o.alloc R.o.size _).trans (b3.mono P.o.size));clear O b3 Y))
 go_ret2;exact⟨A,c,rfl,S.o.1,S.o.2,B3.o⟩
