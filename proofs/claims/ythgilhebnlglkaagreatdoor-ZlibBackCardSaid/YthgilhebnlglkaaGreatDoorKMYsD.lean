import Derived.Test.YthgilhebnlglkaaGreatDoorKYsB
import Derived.Test.YthgilhebnlglkaaGreatDoorRows
import Derived.OpenShut
import Derived.LaidMore
import Derived.Deep.DeepHandedRow
set_option linter.all false
set_option maxHeartbeats 0
set_option maxRecDepth 1000000
open Go.Proofs.Tryz
namespace Go.Proofs.YthgilhebnlglkaaGreatDoor
namespace Y
open Go Go.RowKit M
structure Tab(w:World):Prop where
 l0:w.cell? ⟨2,0,none⟩=some (.int .i64 257)
 l1:w.cell? ⟨2,1,none⟩=some (.int .i64 28)
 l2:w.cell? ⟨2,2,none⟩=some (.int .i64 3)
 l3:w.cell? ⟨2,3,none⟩=some (.int .i64 257)
 l4:w.cell? ⟨2,4,none⟩=some (.int .i64 2)
 d0:w.cell? ⟨3,0,none⟩=some (.int .i64 0)
 d1:w.cell? ⟨3,1,none⟩=some (.int .i64 30)
 d2:w.cell? ⟨3,2,none⟩=some (.int .i64 1)
 d3:w.cell? ⟨3,3,none⟩=some (.int .i64 32768)
 d4:w.cell? ⟨3,4,none⟩=some (.int .i64 1)
theorem Tab.below{w w':World}{n:Nat}(h:Tab w)(c:Below n w w')(b:w.heap.size<=n):Tab w':=by
 have a:∀ {p v},w.cell? p=some v->w'.cell? p=some v:=λ{p v} h=>(c.cell (Ag (qB h) b)).trans h
 exact⟨a h.l0,a h.l1,a h.l2,a h.l3,a h.l4,a h.d0,a h.d1,a h.d2,a h.d3,a h.d4⟩
theorem Lq: prog.globalNamed "platen/symbol.lengths" =some 2 :=by kernel_rfl
theorem JR: prog.globalNamed "platen/symbol.distances" =some 3 :=by kernel_rfl
theorem KW:(prog.globals[2]?).map (·.type)=some 346 :=by kernel_rfl
theorem IQ:(prog.globals[3]?).map (·.type)=some 346 :=by kernel_rfl
theorem zn: prog.cellsOf 346 =5:=by kernel_rfl
theorem cellsInt: prog.cellsOf 3 =1:=by kernel_rfl
theorem oq{H:Type}{enc:TypeId×Value->H}{w:World}{base:Nat}{e:Nat->Bool}{g:Bool}{m:Nat}{cs:List Value}{x:DataW H×List MemPlace}(h:DataW.trod enc prog w base e g m 346 cs=some x){a b c d f:Int}(i:x.1=.agg [.lit (.int .i64 a),.lit (.int .i64 b),.lit (.int .i64 c),.lit (.int .i64 d),.lit (.int .i64 f)]):
 cs=[.int .i64 a,.int .i64 b,.int .i64 c,.int .i64 d,.int .i64 f]:=by
 obtain⟨C,k,_,rfl,n,j,hf⟩:=DataW.trod_struct underlying346 h;rw[zn] at n
 match cs,n with
 |[v0,v1,v2,v3,v4],_=>
  match C,j with
  |[y0,y1,y2,y3,y4],_=>
   have r:DataW.trod enc prog w base e g k 3 (([v0,v1,v2,v3,v4].drop 0).take (prog.cellsOf 3))=some y0:=hf 0 _ rfl;have p:DataW.trod enc prog w base e g k 3 (([v0,v1,v2,v3,v4].drop 1).take (prog.cellsOf 3))=some y1:=hf 1 _ rfl;have u:DataW.trod enc prog w base e g k 3 (([v0,v1,v2,v3,v4].drop 2).take (prog.cellsOf 3))=some y2:=hf 2 _ rfl;have l:DataW.trod enc prog w base e g k 3 (([v0,v1,v2,v3,v4].drop 3).take (prog.cellsOf 3))=some y3:=hf 3 _ rfl;have y:DataW.trod enc prog w base e g k 3 (([v0,v1,v2,v3,v4].drop 4).take (prog.cellsOf 3))=some y4:=hf 4 _ rfl;simp only[cellsInt,BZ,Ck,AY,BX] at r p u l y;obtain⟨J,z,D,_⟩:=DataW.trod_int underlying3 r;obtain⟨K,o,F,_⟩:=DataW.trod_int underlying3 p;obtain⟨G,q,A,_⟩:=DataW.trod_int underlying3 u;obtain⟨L,s,B,_⟩:=DataW.trod_int underlying3 l;obtain⟨I,v,E,_⟩:=DataW.trod_int underlying3 y;simp only[List.cons.injEq,AU] at z o q s v;simp only[Al,Av,DataW.agg.injEq,List.cons.injEq,AU] at i;subst D F A B E;simp only[DataW.lit.injEq,Lit.int.injEq,true_and] at i;obtain⟨rfl,rfl,rfl,rfl,rfl⟩:=i;rw[z,o,q,s,v]
theorem tab_of_laid{W:World}{a:List (String×DataW Unit)}(r:a=[("platen/symbol.lengths",Rows.laid_platen_symbol_lengths),("platen/symbol.distances",Rows.laid_platen_symbol_distances)])(h:laidMet prog a W):Tab W:=by
 subst r;obtain⟨ps,⟨v,B,e,D,A,y,f,n,p,q,⟨u,z,g,x,w,C,k,m,o,l,_,_⟩,_⟩,_⟩:=h;obtain rfl:=Option.some.inj (Lq.symm.trans f);obtain rfl:=Option.some.inj (KW.symm.trans n);obtain rfl:=Option.some.inj (JR.symm.trans k);obtain rfl:=Option.some.inj (IQ.symm.trans m);have t:=oq q rfl;have s:=oq l rfl;have c0:=λj=>World.var?_cell f p j
 have c1:=λj=>World.var?_cell k o j
 have b:∀j,e[j]? =e.toList[j]? :=λj=>(BM).symm
 have c:∀j,g[j]? =g.toList[j]? :=λj=>(BM).symm
 have d:=λj=>(c0 j).trans ((b j).trans (by rw[t]))
 have i:=λj=>(c1 j).trans ((c j).trans (by rw[s]))
 exact⟨d 0,d 1,d 2,d 3,d 4,i 0,i 1,i 2,i 3,i 4⟩
theorem zw:∀i,i<28->bt 2 i=lb i:=by decide
theorem yx:∀i,i<28->lt 3 2 i=ll i:=by decide
theorem zx:∀i,i<30->bt 1 i=db i:=by decide
theorem yy:∀i,i<30->lt 1 1 i=dl i:=by decide
theorem m6{n i:Nat}(f:n<=257)(h:Plc (lt 3 2) 28 n i):lsy n=i/\lex n=n - lt 3 2 i/\lb (lsy n)=bt 2 i:=by
 have hi:=h.lt;have b:=yx i hi;have c:ll i<=n:=(by rw[<-b];exact h.lo);have d:n<ll i+ls i:=by
  rcases h.hi with e|e
  · obtain rfl:i=27:=by omega
    show n<227+31
    omega
  · by_cases q:i+1<28
    · rw[yx _ q,ur.next i (by omega)] at e;exact e
    · obtain rfl:i=27:=by omega
      show n<227+31
      omega
 have a:=oG (n:=n) (i:=i) (by omega) c d;exact⟨a,by unfold lex;rw[a,b],by rw[a,zw i hi]⟩
theorem iS{n i:Nat}(f:n<=32768)(h:Plc (lt 1 1) 30 n i):dsy n=i/\dex n=n - lt 1 1 i/\db (dsy n)=bt 1 i:=by
 have hi:=h.lt;have b:=yy i hi;have c:dl i<=n:=(by rw[<-b];exact h.lo);have d:n<dl i+ds i:=by
  rcases h.hi with e|e
  · obtain rfl:i=29:=by omega
    show n<24577+8192
    omega
  · by_cases q:i+1<30
    · rw[yy _ q,vp.next i (by omega)] at e;exact e
    · obtain rfl:i=29:=by omega
      show n<24577+8192
      omega
 have a:=kQ (n:=n) (i:=i) (by omega) c d;exact⟨a,by unfold dex;rw[a,b],by rw[a,zx i hi]⟩
theorem length_yes(n:Nat)(w:World)(H:Tab w)(t:3<=n/\n<=258):Calls prog 310 #[.int .i64 n] w λe w'=>e=.returned (.tuple #[.int .i64 (257+lsy n:Nat),.int .u32 (lex n:Nat),.int .i64 (lb (lsy n):Nat),.bool true])/\Below w.heap.size w w':=by
 by_cases h:n=258
 · subst h
   show Calls prog 310 #[.int .i64 258] w λe w'=>e=.returned (.tuple #[.int .i64 285,.int .u32 0,.int .i64 0,.bool true])/\Below w.heap.size w w'
   go_enter func310,ntmps310;go_wp2_with fail;exact bodyPost_ret (v:=.tuple #[.int .i64 285,.int .u32 0,.int .i64 0,.bool true]) (by simp[results,results310,go_sem]) rfl ⟨rfl,Below.refl _ _⟩
 · have a:3<=n/\n<=257:=by omega
   have r:=qH (show Calls prog 330 #[.agg #[.int .i64 257,.int .i64 28,.int .i64 3,.int .i64 257,.int .i64 2],.int .i64 n] w λe w'=> ∃i,Plc (lt 3 2) 28 n i/\e=.returned (.tuple #[.int .i64 (257+i:Nat),.int .u32 (n - lt 3 2 i:Nat),.int .i64 (bt 2 i:Nat),.bool true])/\Below w.heap.size w w' from eo 257 28 3 257 2 n w (by decide) (by decide) (by decide) (by decide) (.inr rfl) (by decide) a);have c0:=H.l0;have c1:=H.l1;have A:=H.l2;have z:=H.l3;have y:=H.l4;have B:((n:Int)==258)=false:=(by rw[qN];omega);obtain⟨s,hs⟩:∃s,(257+lsy n:Nat)=s:=⟨_,rfl⟩
   obtain⟨x,c⟩:∃x,lex n=x:=⟨_,rfl⟩
   obtain⟨b,d⟩:∃b,lb (lsy n)=b:=⟨_,rfl⟩
   have q:=qH (λ(i:Nat) (g:Plc (lt 3 2) 28 n i)=>(show(257+i:Nat)=s/\n - lt 3 2 i=x/\bt 2 i=b from⟨by rw[<-hs,(m6 a.2 g).1],by rw[<-c,(m6 a.2 g).2.1],by rw[<-d,(m6 a.2 g).2.2]⟩));rw[hs,c,d];clear H t a h hs c d;go_enter func310,ntmps310;go_wp2_with (go_at_call 330;(with_reducible refine r.o.mono ?_);rintro e C ⟨i,k,rfl,p⟩;have u:=qH p;obtain⟨j,l,m⟩:=q.o i k;rw[j,l,m];clear p k j l m);exact bodyPost_ret (v:=.tuple #[.int .i64 s,.int .u32 x,.int .i64 b,.bool true]) (by simp[results,results310,go_sem]) rfl ⟨rfl,u.o⟩
theorem dist_yes(n:Nat)(w:World)(H:Tab w)(a:1<=n/\n<=32768):Calls prog 311 #[.int .i64 n] w λe w'=>e=.returned (.tuple #[.int .i64 (dsy n:Nat),.int .u32 (dex n:Nat),.int .i64 (db (dsy n):Nat),.bool true])/\Below w.heap.size w w':=by
 have q:=qH (show Calls prog 330 #[.agg #[.int .i64 0,.int .i64 30,.int .i64 1,.int .i64 32768,.int .i64 1],.int .i64 n] w λe w'=> ∃i,Plc (lt 1 1) 30 n i/\e=.returned (.tuple #[.int .i64 (0+i:Nat),.int .u32 (n - lt 1 1 i:Nat),.int .i64 (bt 1 i:Nat),.bool true])/\Below w.heap.size w w' from eo 0 30 1 32768 1 n w (by decide) (by decide) (by decide) (by decide) (.inl rfl) (by decide) a);have c0:=H.d0;have c1:=H.d1;have y:=H.d2;have u:=H.d3;have t:=H.d4;obtain⟨s,hs⟩:∃s,dsy n=s:=⟨_,rfl⟩
 obtain⟨x,c⟩:∃x,dex n=x:=⟨_,rfl⟩
 obtain⟨b,d⟩:∃b,db (dsy n)=b:=⟨_,rfl⟩
 have p:=qH (λ(i:Nat) (g:Plc (lt 1 1) 30 n i)=>(show(0+i:Nat)=s/\n - lt 1 1 i=x/\bt 1 i=b from⟨by rw[<-hs,(iS a.2 g).1,Aa],by rw[<-c,(iS a.2 g).2.1],by rw[<-d,(iS a.2 g).2.2]⟩));rw[d,hs,c];clear H a hs c d;go_enter func311,ntmps311;go_wp2_with (go_at_call 330;(with_reducible refine q.o.mono ?_);rintro e z ⟨i,j,rfl,m⟩;have r:=qH m;obtain⟨h,k,l⟩:=p.o i j;rw[h,k,l];clear m j h k l);exact bodyPost_ret (v:=.tuple #[.int .i64 s,.int .u32 x,.int .i64 b,.bool true]) (by simp[results,results311,go_sem]) rfl ⟨rfl,r.o⟩
theorem lbits_no(x:Int)(w:World)(H:Tab w)(b:x<257\/285<x):Calls prog 217 #[.int .i64 x] w λe w'=>e=.returned (.tuple #[.int .i64 0,.bool false])/\Below w.heap.size w w':=by
 have c:=qH (show Calls prog 261 #[.agg #[.int .i64 257,.int .i64 28,.int .i64 3,.int .i64 257,.int .i64 2],.int .i64 x] w λe w'=>e=.returned (.tuple #[.int .i64 0,.bool false])/\Below w.heap.size w w' from fV 257 28 3 257 2 x w (by decide) (by decide) (by omega));have c0:=H.l0;have c1:=H.l1;have i:=H.l2;have h:=H.l3;have g:=H.l4;have j:(x==285)=false:=(by rw[qN];omega);clear H b;go_enter func217,ntmps217;go_wp2_with (go_at_call 261;(with_reducible refine c.o.mono ?_);rintro e k ⟨rfl,a⟩;have d:=qH a;clear a);exact bodyPost_ret (v:=.tuple #[.int .i64 0,.bool false]) (by simp[results,results217,go_sem]) rfl ⟨rfl,d.o⟩
theorem lbits_yes(i:Nat)(x:Int)(w:World)(H:Tab w)(hi:i<=28)(g:x=257+(i:Int)):Calls prog 217 #[.int .i64 x] w λe w'=>e=.returned (.tuple #[.int .i64 (lb i:Nat),.bool true])/\Below w.heap.size w w':=by
 by_cases h:i=28
 · subst h
   obtain rfl:x=285:=by omega
   show Calls prog 217 #[.int .i64 285] w λe w'=>e=.returned (.tuple #[.int .i64 0,.bool true])/\Below w.heap.size w w'
   go_enter func217,ntmps217;go_wp2_with fail;exact bodyPost_ret (v:=.tuple #[.int .i64 0,.bool true]) (by simp[results,results217,go_sem]) rfl ⟨rfl,Below.refl _ _⟩
 · have a:i<28:=by omega
   have c:=qH (show Calls prog 261 #[.agg #[.int .i64 257,.int .i64 28,.int .i64 3,.int .i64 257,.int .i64 2],.int .i64 x] w λe w'=>e=.returned (.tuple #[.int .i64 (lb i:Nat),.bool true])/\Below w.heap.size w w' from by rw[<-zw i a];exact cK 257 28 3 257 2 i x w (by decide) (by decide) (.inr rfl) a (by omega));have c0:=H.l0;have c1:=H.l1;have n:=H.l2;have m:=H.l3;have l:=H.l4;have p:(x==285)=false:=(by rw[qN];omega);generalize j:lb i=b at c ⊢;clear H hi a g h j;go_enter func217,ntmps217;go_wp2_with (go_at_call 261;(with_reducible refine c.o.mono ?_);rintro e q ⟨rfl,d⟩;have k:=qH d;clear d);exact bodyPost_ret (v:=.tuple #[.int .i64 b,.bool true]) (by simp[results,results217,go_sem]) rfl ⟨rfl,k.o⟩
theorem dbits_no(x:Int)(w:World)(H:Tab w)(b:x<0\/29<x):Calls prog 220 #[.int .i64 x] w λe w'=>e=.returned (.tuple #[.int .i64 0,.bool false])/\Below w.heap.size w w':=by
 have c:=qH (show Calls prog 261 #[.agg #[.int .i64 0,.int .i64 30,.int .i64 1,.int .i64 32768,.int .i64 1],.int .i64 x] w λe w'=>e=.returned (.tuple #[.int .i64 0,.bool false])/\Below w.heap.size w w' from fV 0 30 1 32768 1 x w (by decide) (by decide) (by omega));have c0:=H.d0;have c1:=H.d1;have i:=H.d2;have h:=H.d3;have g:=H.d4;clear H b;go_enter func220,ntmps220;go_wp2_with (go_at_call 261;(with_reducible refine c.o.mono ?_);rintro e j ⟨rfl,a⟩;have d:=qH a;clear a);exact bodyPost_ret (v:=.tuple #[.int .i64 0,.bool false]) (by simp[results,results220,go_sem]) rfl ⟨rfl,d.o⟩
theorem dbits_yes(i:Nat)(x:Int)(w:World)(H:Tab w)(hi:i<=29)(d:x=(i:Int)):Calls prog 220 #[.int .i64 x] w λe w'=>e=.returned (.tuple #[.int .i64 (db i:Nat),.bool true])/\Below w.heap.size w w':=by
 have a:=qH (show Calls prog 261 #[.agg #[.int .i64 0,.int .i64 30,.int .i64 1,.int .i64 32768,.int .i64 1],.int .i64 x] w λe w'=>e=.returned (.tuple #[.int .i64 (db i:Nat),.bool true])/\Below w.heap.size w w' from by rw[<-zx i (by omega)];exact cK 0 30 1 32768 1 i x w (by decide) (by decide) (.inl rfl) (by omega) (by omega));have c0:=H.d0;have c1:=H.d1;have l:=H.d2;have k:=H.d3;have j:=H.d4;generalize g:db i=b at a ⊢;clear H hi d g;go_enter func220,ntmps220;go_wp2_with (go_at_call 261;(with_reducible refine a.o.mono ?_);rintro e m ⟨rfl,c⟩;have h:=qH c;clear c);exact bodyPost_ret (v:=.tuple #[.int .i64 b,.bool true]) (by simp[results,results220,go_sem]) rfl ⟨rfl,h.o⟩
theorem oE{i e:Nat}(hi:i<28)(h:¬e<2^lb i):lof i e=0:=by
 unfold lof;rw[A0 (λq=>h (Ag q.2 (Gz (by omega))))]
theorem GE{i e:Nat}(hi:i<28)(h:e<2^lb i):lof i e=(if ll i+e<=257 then ll i+e else 0)/\(0<lof i e↔ll i+e<=257):=by
 have c:∀i,i<28->3<=ll i/\(i≠27->ll i+2^lb i<=227):=(by decide);obtain⟨f,b⟩:=c i hi;have hs:=JE (i:=i) (e:=e) (by omega);by_cases q:ll i+e<=257
 · have:e<ls i:=by
    refine hs.1 ⟨h,λg=> ?_⟩;obtain⟨rfl,rfl⟩:=g;exact absurd q (by decide)
   unfold lof;rw[A7 ⟨by omega,this⟩,A7 q];exact⟨rfl,λ_=>q,λ_=>by omega⟩
 · have:¬e<ls i:=λg=>by
    by_cases a:i=27
    · subst a
      have g':e<31:=g;have d:¬227+e<=257:=q;omega
    · have:=b a
      omega
   unfold lof;rw[A0 (λg=>this g.2),A0 q];exact⟨rfl,λg=>by omega,λg=>absurd g q⟩
theorem p6{i e:Nat}(h:¬e<2^db i):dof i e=0:=by
 unfold dof;rw[A0 (λq=>h q.2)]
theorem Hs{i e:Nat}(hi:i<30)(h:e<2^db i):dof i e=(if dl i+e<=32768 then dl i+e else 0)/\(0<dof i e↔dl i+e<=32768):=by
 have a:∀i,i<30->1<=dl i/\dl i+2^db i<=32769:=(by decide);obtain⟨b,c⟩:=a i hi;have q:dl i+e<=32768:=(by omega);unfold dof;rw[A7 ⟨by omega,h⟩,A7 q];exact⟨rfl,λ_=>q,λ_=>by omega⟩
theorem lengthOf_no(x:Int)(e:Nat)(w:World)(H:Tab w)(b:x<257\/285<x):Calls prog 218 #[.int .i64 x,.int .u32 e] w λy w'=>y=.returned (.tuple #[.int .i64 0,.bool false])/\Below w.heap.size w w':=by
 have c:=qH (show Calls prog 262 #[.agg #[.int .i64 257,.int .i64 28,.int .i64 3,.int .i64 257,.int .i64 2],.int .i64 x,.int .u32 e] w λy w'=>y=.returned (.tuple #[.int .i64 0,.bool false])/\Below w.heap.size w w' from df 257 28 3 257 2 x e w (by decide) (by decide) (by omega));have c0:=H.l0;have c1:=H.l1;have i:=H.l2;have h:=H.l3;have g:=H.l4;have j:(x==285)=false:=(by rw[qN];omega);clear H b;go_enter func218,ntmps218;go_wp2_with (go_at_call 262;(with_reducible refine c.o.mono ?_);rintro e k ⟨rfl,a⟩;have d:=qH a;clear a);exact bodyPost_ret (v:=.tuple #[.int .i64 0,.bool false]) (by simp[results,results218,go_sem]) rfl ⟨rfl,d.o⟩
theorem lengthOf_yes(i e:Nat)(x:Int)(w:World)(H:Tab w)(hi:i<=28)(m:x=257+(i:Int)):Calls prog 218 #[.int .i64 x,.int .u32 e] w λy w'=>y=.returned (.tuple #[.int .i64 (lof i e:Nat),.bool (decide (0<lof i e))])/\Below w.heap.size w w':=by
 by_cases h:i=28
 · subst h
   obtain rfl:x=285:=by omega
   by_cases g:e=0
   · subst g
     show Calls prog 218 #[.int .i64 285,.int .u32 0] w λy w'=>y=.returned (.tuple #[.int .i64 258,.bool true])/\Below w.heap.size w w'
     go_enter func218,ntmps218;go_wp2_with fail;exact bodyPost_ret (v:=.tuple #[.int .i64 258,.bool true]) (by simp[results,results218,go_sem]) rfl ⟨rfl,Below.refl _ _⟩
   · have c:lof 28 e=0:=by
      unfold lof;rw[A0 (λq=>by have:e<1:=q.2;omega)]
     rw[c];show Calls prog 218 #[.int .i64 285,.int .u32 e] w λy w'=>y=.returned (.tuple #[.int .i64 0,.bool false])/\Below w.heap.size w w'
     have k:=qH (show Calls prog 262 #[.agg #[.int .i64 257,.int .i64 28,.int .i64 3,.int .i64 257,.int .i64 2],(.int .i64 285),.int .u32 e] w λy w'=>y=.returned (.tuple #[.int .i64 0,.bool false])/\Below w.heap.size w w' from df 257 28 3 257 2 285 e w (by decide) (by decide) (.inr (by decide)));have c0:=H.l0;have c1:=H.l1;have t:=H.l2;have s:=H.l3;have r:=H.l4;have z:((e:Int)==0)=false:=(by rw[qN];omega);clear H hi m g c;go_enter func218,ntmps218;go_wp2_with (go_at_call 262;(with_reducible refine k.o.mono ?_);rintro e A ⟨rfl,d⟩;have l:=qH d;clear d);exact bodyPost_ret (v:=.tuple #[.int .i64 0,.bool false]) (by simp[results,results218,go_sem]) rfl ⟨rfl,l.o⟩
 · have a:i<28:=by omega
   have c0:=H.l0;have c1:=H.l1;have t:=H.l2;have s:=H.l3;have r:=H.l4;have z:(x==285)=false:=(by rw[qN];omega);obtain⟨v,b,k,c,n⟩:∃ (v:Nat) (b:Bool),Hd (Calls prog 262 #[.agg #[.int .i64 257,.int .i64 28,.int .i64 3,.int .i64 257,.int .i64 2],.int .i64 x,.int .u32 e] w λy w'=>y=.returned (.tuple #[.int .i64 v,.bool b])/\Below w.heap.size w w')/\lof i e=v/\decide (0<lof i e)=b:=by
    by_cases q:e<2^lb i
    · obtain⟨u,p⟩:=GE a q
      have j:=ew 257 28 3 257 2 i e x w (by decide) (by decide) (by decide) (.inr rfl) (by decide) a (by omega) (by rw[zw i a];exact q) (by rw[yx i a];have:=Lj i hi;omega);rw[yx i a] at j;exact⟨_,_,qH j,u,Cj.2 p⟩
    · have j:=dw 257 28 3 257 2 i e x w (by decide) (by decide) (.inr rfl) a (by omega) (by rw[zw i a];exact q)
      exact⟨0,false,qH j,oE a q,by rw[oE a q];rfl⟩
   rw[n,c];clear H hi a m h n c;go_enter func218,ntmps218;go_wp2_with (go_at_call 262;(with_reducible refine k.o.mono ?_);rintro e A ⟨rfl,d⟩;have l:=qH d;clear d);exact bodyPost_ret (v:=.tuple #[.int .i64 v,.bool b]) (by simp[results,results218,go_sem]) rfl ⟨rfl,l.o⟩
theorem distOf_no(x:Int)(e:Nat)(w:World)(H:Tab w)(b:x<0\/29<x):Calls prog 221 #[.int .i64 x,.int .u32 e] w λy w'=>y=.returned (.tuple #[.int .i64 0,.bool false])/\Below w.heap.size w w':=by
 have c:=qH (show Calls prog 262 #[.agg #[.int .i64 0,.int .i64 30,.int .i64 1,.int .i64 32768,.int .i64 1],.int .i64 x,.int .u32 e] w λy w'=>y=.returned (.tuple #[.int .i64 0,.bool false])/\Below w.heap.size w w' from df 0 30 1 32768 1 x e w (by decide) (by decide) (by omega));have c0:=H.d0;have c1:=H.d1;have i:=H.d2;have h:=H.d3;have g:=H.d4;clear H b;go_enter func221,ntmps221;go_wp2_with (go_at_call 262;(with_reducible refine c.o.mono ?_);rintro e j ⟨rfl,a⟩;have d:=qH a;clear a);exact bodyPost_ret (v:=.tuple #[.int .i64 0,.bool false]) (by simp[results,results221,go_sem]) rfl ⟨rfl,d.o⟩
theorem distOf_yes(i e:Nat)(x:Int)(w:World)(H:Tab w)(hi:i<=29)(j:x=(i:Int)):Calls prog 221 #[.int .i64 x,.int .u32 e] w λy w'=>y=.returned (.tuple #[.int .i64 (dof i e:Nat),.bool (decide (0<dof i e))])/\Below w.heap.size w w':=by
 have a:i<30:=(by omega);have c0:=H.d0;have c1:=H.d1;have s:=H.d2;have r:=H.d3;have p:=H.d4;obtain⟨v,b,m,d,g⟩:∃ (v:Nat) (b:Bool),Hd (Calls prog 262 #[.agg #[.int .i64 0,.int .i64 30,.int .i64 1,.int .i64 32768,.int .i64 1],.int .i64 x,.int .u32 e] w λy w'=>y=.returned (.tuple #[.int .i64 v,.bool b])/\Below w.heap.size w w')/\dof i e=v/\decide (0<dof i e)=b:=by
  by_cases q:e<2^db i
  · obtain⟨l,k⟩:=Hs a q
    have c:=ew 0 30 1 32768 1 i e x w (by decide) (by decide) (by decide) (.inl rfl) (by decide) a (by omega) (by rw[zx i a];exact q) (by rw[yy i a];have:=Lt i hi;omega);rw[yy i a] at c;exact⟨_,_,qH c,l,Cj.2 k⟩
  · have c:=dw 0 30 1 32768 1 i e x w (by decide) (by decide) (.inl rfl) a (by omega) (by rw[zx i a];exact q)
    exact⟨0,false,qH c,p6 q,by rw[p6 q];rfl⟩
 rw[g,d];clear H hi a j g d;go_enter func221,ntmps221;go_wp2_with (go_at_call 262;(with_reducible refine m.o.mono ?_);rintro e t ⟨rfl,h⟩;have n:=qH h;clear h);exact bodyPost_ret (v:=.tuple #[.int .i64 v,.bool b]) (by simp[results,results221,go_sem]) rfl ⟨rfl,n.o⟩
