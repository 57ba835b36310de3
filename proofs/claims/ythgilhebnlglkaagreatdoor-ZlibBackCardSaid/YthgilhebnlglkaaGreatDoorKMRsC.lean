import Derived.Test.YthgilhebnlglkaaGreatDoorKMMathT
import Derived.Test.YthgilhebnlglkaaGreatDoorChecked
import Derived.Deep.RegionLaw
import Derived.BigQuiet
import Derived.WalkSpells
set_option linter.all false
set_option maxHeartbeats 0
set_option maxRecDepth 1000000
open Go.Proofs.Tryz
namespace Go.Proofs.YthgilhebnlglkaaGreatDoor
section
open Go Go.RowKit M
theorem xm{e b:Nat}(h:e<2^b):(e:Int) /2^b=0:=by
 have a:((2:Int)^b)=((2^b:Nat):Int):=(by rw[Cq];rfl);rw[a,<-Ce,Cf h];rfl
theorem xn{e b:Nat}(h:¬e<2^b):(((e:Int) /2^b) !=0)=true:=by
 have a:((2:Int)^b)=((2^b:Nat):Int):=(by rw[Cq];rfl);rw[a,<-Ce];have c:0<e/2^b:=Nat.div_pos (by omega) (AA b);rw[AQ];omega
end
namespace Y
open Go Go.RowKit M
def bt(g p:Nat):Nat:=p/2^g - 1
def lt(l g p:Nat):Nat:=l+(p - bt g p*2^g)*2^bt g p
theorem Jh{g:Nat}(h:g=1\/g=2):(2:Int)^g=((2^g:Nat):Int):=by rw[Cq];rfl
theorem Ic{g p:Nat}(a:g=1\/g=2)(b:p<32):bt g p<=15:=by
 rcases a with rfl|rfl<;>(unfold bt;omega)
theorem Ke{g p:Nat}(a:g=1\/g=2)(b:p<32):bt g p*2^g<=p:=by
 rcases a with rfl|rfl<;>(unfold bt;omega)
theorem dY(a c l m g p:Nat)(w:World)(h:g=1\/g=2)(j:p<32):Calls prog 296 #[.agg #[.int .i64 a,.int .i64 c,.int .i64 l,.int .i64 m,.int .i64 g],.int .i64 p] w λe w'=>e=.returned (.int .i64 (bt g p:Nat))/\Below w.heap.size w w':=by
 have k:((g:Int)<64):=(by omega);obtain⟨q,b⟩:∃q,p/2^g=q:=⟨_,rfl⟩
 have d:bt g p=q - 1:=(by unfold bt;rw[b]);have i:(p:Int) /2^g=(q:Int):=(by rw[Jh h,<-Ce,b]);have o:q<=32:=(by rw[<-b];exact qK (CJ _ _) (by omega));have n:wrap64 ((q:Int) - 1)=(q:Int) - 1:=(by exact IntWalk.wrap64_in _ ⟨by omega,by omega⟩);rw[d];clear d b;go_enter func296,ntmps296;go_wp2_with fail
 · go_ret
   exact⟨by simp;omega,qL⟩
 · go_ret
   exact⟨by simp;omega,qL⟩
theorem dg(a c l m g p:Nat)(w:World)(L:l<=3)(q:g=1\/g=2)(u:p<32):Calls prog 297 #[.agg #[.int .i64 a,.int .i64 c,.int .i64 l,.int .i64 m,.int .i64 g],.int .i64 p] w λe w'=>e=.returned (.int .i64 (lt l g p:Nat))/\Below w.heap.size w w':=by
 have K:((g:Int)<64):=(by omega);have D:=qH (λw=>dY a c l m g p w q u);have H:=Ic q u;have r:=Ke q u;obtain⟨b,d⟩:∃b,bt g p=b:=⟨_,rfl⟩
 have C:lt l g p=l+(p - b*2^g)*2^b:=(by unfold lt;rw[d]);rw[C];rw[d] at D H r;generalize F:b*2^g=k at r ⊢;have t:wrap64 ((b:Int)*2^g)=(k:Int):=(by rw[Jh q,<-Cc,F];exact IntWalk.wrap64_in _ ⟨by omega,by omega⟩);have x:wrap64 ((p:Int) - k)=((p - k:Nat):Int):=(by rw[Int.ofNat_sub r];exact IntWalk.wrap64_in _ ⟨by omega,by omega⟩);have A:(2:Int)^b=((2^b:Nat):Int):=(by rw[Cq];rfl);have i:2^b<=32768:=qK (Ak (by decide) H) (by decide);have j:p - k<=31:=(by omega);have n:(p - k)*2^b<=31*32768:=BS j i;generalize B:(p - k)*2^b=z at n ⊢;have y:wrap64 (((p - k:Nat):Int)*2^b)=(z:Int):=(by rw[A,<-Cc,B];exact IntWalk.wrap64_in _ ⟨by omega,by omega⟩);have G:wrap64 ((l:Int)+z)=((l+z:Nat):Int):=(by clear t x y A B;rw[Int.natCast_add];exact IntWalk.wrap64_in _ ⟨by omega,by omega⟩);have E:wrap64 ((l:Int)+wrap64 (wrap64 ((p:Int) - wrap64 ((b:Int)*2^g))*2^b))=((l+z:Nat):Int):=(by rw[t,x,y,G]);have J:=qH E;clear C d r F t x A n B y G E i j;go_enter func297,ntmps297;go_wp2_with (go_at_call 296;(with_reducible refine(D.o _).mono ?_);rintro e s ⟨rfl,v⟩;have h:=(v.block w.heap.size (by simp)).trans (heap_alloc_new w _);have M:s.cell? ⟨w.heap.size,2,none⟩=some (.int .i64 l):=(by rw[cell_of_row s _ _ _ _ _ h];rfl);have N:s.cell? ⟨w.heap.size,4,none⟩=some (.int .i64 g):=(by rw[cell_of_row s _ _ _ _ _ h];rfl);have I:=qH v;clear v h)
 go_quiet (fail)
 go_wp2_with fail;go_ret;exact⟨by rw[<-J.o];rfl,aj ((qL).trans (I.o.mono (by simp))) _⟩
structure Bx(w:World)(br bn a c l m g n:Nat):Prop where
 c0:w.cell? ⟨br,0,none⟩=some (.int .i64 a)
 c1:w.cell? ⟨br,1,none⟩=some (.int .i64 c)
 c2:w.cell? ⟨br,2,none⟩=some (.int .i64 l)
 c3:w.cell? ⟨br,3,none⟩=some (.int .i64 m)
 c4:w.cell? ⟨br,4,none⟩=some (.int .i64 g)
 num:w.cell? ⟨bn,0,none⟩=some (.int .i64 n)
section
variable {w w':World} {br bn a c l m g n:Nat}
theorem Bx.below(h:Bx w br bn a c l m g n){B:Nat}(b:Below B w w')(d:br<B)(e:bn<B):Bx w' br bn a c l m g n:=
 ⟨(b.cell d).trans h.c0,(b.cell d).trans h.c1,(b.cell d).trans h.c2,(b.cell d).trans h.c3,(b.cell d).trans h.c4,(b.cell e).trans h.num⟩
theorem Bx.lt(h:Bx w br bn a c l m g n):br<w.heap.size/\bn<w.heap.size:=⟨qB h.c0,qB h.num⟩
end
theorem rC(br bn a c l m g n p:Nat)(w:World)(r:l<=3)(q:g=1\/g=2)(k:p<32)(H:Bx w br bn a c l m g n):Calls prog 341 #[.int .i64 p,.pointer (some ⟨br,0,none⟩),.pointer (some ⟨bn,0,none⟩)] w λe w'=>e=.returned (.bool (decide (n<lt l g p)))/\Below w.heap.size w w':=by
 have i:=qH (λw=>dg a c l m g p w r q k);obtain⟨c0,c1,y,x,u,h⟩:=H;have b:=qB h;generalize j:lt l g p=v at i ⊢;clear j;go_enter func341,ntmps341;go_wp2_with fail
 go_region_with (go_at_call 297;(with_reducible refine(i.o _).mono ?_);rintro e z ⟨rfl,d⟩;have t:=(d.cell (p:=⟨bn,0,none⟩) (by simpa using b)).trans h;have s:=qH d;clear d)
 all_goals
  go_wp2_with fail;go_ret;exact⟨rfl,(Below.refl _ _).drew.trans (s.o.mono qR)⟩
theorem fV(a c l m g:Nat)(x:Int)(W:World)(i:a<=257)(o:c<=32)(b:x<a\/(a:Int)+c<=x):
 Calls prog 261 #[.agg #[.int .i64 a,.int .i64 c,.int .i64 l,.int .i64 m,.int .i64 g],.int .i64 x] W λe w'=>e=.returned (.tuple #[.int .i64 0,.bool false])/\Below W.heap.size W w':=by
 have j:wrap64 ((a:Int)+c)=(a:Int)+c:=IntWalk.wrap64_in _ ⟨by omega,by omega⟩;by_cases h:x<a
 · have d:decide (x<(a:Int))=true:=q9T h
   clear b h;go_enter func261,ntmps261;go_wp2_with fail;exact bodyPost_ret (v:=.tuple #[.int .i64 0,.bool false]) (by simp[results,results261,go_sem]) rfl ⟨rfl,qL⟩
 · have d:decide (x<(a:Int))=false:=qF h
   have k:decide ((a:Int)+c<=x)=true:=q9T (by omega);clear b h;go_enter func261,ntmps261;go_wp2_with fail;exact bodyPost_ret (v:=.tuple #[.int .i64 0,.bool false]) (by simp[results,results261,go_sem]) rfl ⟨rfl,qL⟩
theorem cK(a c l m g i:Nat)(x:Int)(W:World)(t:a<=257)(C:c<=32)(h:g=1\/g=2)(hi:i<c)(k:x=a+i):
 Calls prog 261 #[.agg #[.int .i64 a,.int .i64 c,.int .i64 l,.int .i64 m,.int .i64 g],.int .i64 x] W λe w'=>e=.returned (.tuple #[.int .i64 (bt g i:Nat),.bool true])/\Below W.heap.size W w':=by
 have b:i<32:=(by omega);have j:=qH (λw=>dY a c l m g i w h b);generalize r:bt g i=z at j ⊢;have u:wrap64 ((a:Int)+c)=(a:Int)+c:=IntWalk.wrap64_in _ ⟨by omega,by omega⟩;have y:decide (x<(a:Int))=false:=qF (by omega);have A:decide ((a:Int)+c<=x)=false:=qF (by omega);have B:x - a=(i:Int):=(by omega);have E:wrap64 (i:Int)=(i:Int):=IntWalk.wrap64_in _ ⟨by omega,by omega⟩;have s:0<=x:=(by omega);have q:x<=300:=(by omega);clear r k h;go_enter func261,ntmps261;go_wp2_with (go_at_call 296;(with_reducible refine(j.o _).mono ?_);rintro e D ⟨rfl,d⟩;have p:=qH ((qL).trans (d.mono (by simp)));clear d);exact bodyPost_ret (v:=.tuple #[.int .i64 z,.bool true]) (by simp[results,results261,go_sem]) rfl ⟨rfl,p.o⟩
theorem df(a c l m g:Nat)(x e:Int)(W:World)(j:a<=257)(q:c<=32)(i:x<a\/(a:Int)+c<=x):
 Calls prog 262 #[.agg #[.int .i64 a,.int .i64 c,.int .i64 l,.int .i64 m,.int .i64 g],.int .i64 x,.int .u32 e] W λy w'=>y=.returned (.tuple #[.int .i64 0,.bool false])/\Below W.heap.size W w':=by
 have p:=qH (λw=>fV a c l m g x w j q i);clear i;go_enter func262,ntmps262;go_wp2_with (go_at_call 261;(with_reducible refine(p.o _).mono ?_);rintro y d ⟨rfl,h⟩;have b:=(h.block W.heap.size (by simp)).trans (heap_alloc_new W _);have u:d.cell? ⟨W.heap.size,0,none⟩=some (.int .i64 a):=(by rw[cell_of_row d _ _ _ _ _ b];rfl);have s:d.cell? ⟨W.heap.size,1,none⟩=some (.int .i64 c):=(by rw[cell_of_row d _ _ _ _ _ b];rfl);have r:d.cell? ⟨W.heap.size,2,none⟩=some (.int .i64 l):=(by rw[cell_of_row d _ _ _ _ _ b];rfl);have t:d.cell? ⟨W.heap.size,3,none⟩=some (.int .i64 m):=(by rw[cell_of_row d _ _ _ _ _ b];rfl);have z:d.cell? ⟨W.heap.size,4,none⟩=some (.int .i64 g):=(by rw[cell_of_row d _ _ _ _ _ b];rfl);have k:=qH ((qL).trans (h.mono (by simp)));clear h b);exact bodyPost_ret (v:=.tuple #[.int .i64 0,.bool false]) (by simp[results,results262,go_sem]) rfl ⟨rfl,k.o⟩
theorem dw(a c l m g i e:Nat)(x:Int)(W:World)(s:a<=257)(A:c<=32)(p:g=1\/g=2)(hi:i<c)(k:x=a+i)(r:¬e<2^bt g i):
 Calls prog 262 #[.agg #[.int .i64 a,.int .i64 c,.int .i64 l,.int .i64 m,.int .i64 g],.int .i64 x,.int .u32 e] W λy w'=>y=.returned (.tuple #[.int .i64 0,.bool false])/\Below W.heap.size W w':=by
 have q:=qH (λw=>cK a c l m g i x w s A p hi k);have h:=Ic p (show i<32 by omega);have hs:=xn r;generalize u:bt g i=z at q h hs;clear k u r;go_enter func262,ntmps262;go_wp2_with (go_at_call 261;(with_reducible refine(q.o _).mono ?_);rintro y d ⟨rfl,j⟩;have b:=(j.block W.heap.size (by simp)).trans (heap_alloc_new W _);have E:d.cell? ⟨W.heap.size,0,none⟩=some (.int .i64 a):=(by rw[cell_of_row d _ _ _ _ _ b];rfl);have C:d.cell? ⟨W.heap.size,1,none⟩=some (.int .i64 c):=(by rw[cell_of_row d _ _ _ _ _ b];rfl);have B:d.cell? ⟨W.heap.size,2,none⟩=some (.int .i64 l):=(by rw[cell_of_row d _ _ _ _ _ b];rfl);have D:d.cell? ⟨W.heap.size,3,none⟩=some (.int .i64 m):=(by rw[cell_of_row d _ _ _ _ _ b];rfl);have F:d.cell? ⟨W.heap.size,4,none⟩=some (.int .i64 g):=(by rw[cell_of_row d _ _ _ _ _ b];rfl);have t:=qH ((qL).trans (j.mono (by simp)));clear j b);exact bodyPost_ret (v:=.tuple #[.int .i64 0,.bool false]) (by simp[results,results262,go_sem]) rfl ⟨rfl,t.o⟩
theorem ew(a c l m g i e:Nat)(x:Int)(W:World)(I:a<=257)(L:c<=32)(K:l<=3)(t:g=1\/g=2)(V:m<=32768)(hi:i<c)(G:x=a+i)(D:e<2^bt g i)(S:lt l g i<=32768):
 Calls prog 262 #[.agg #[.int .i64 a,.int .i64 c,.int .i64 l,.int .i64 m,.int .i64 g],.int .i64 x,.int .u32 e] W λy w'=>y=.returned (.tuple #[.int .i64 (if lt l g i+e<=m then lt l g i+e else 0:Nat),.bool (decide (lt l g i+e<=m))])/\Below W.heap.size W w':=by
 have k:i<32:=(by omega);have j:=Ic t k;have J:e<32768:=Ag D (qK (Ak (by decide) j) (by decide));have F:=qH (λw=>cK a c l m g i x w I L t hi G);have A:=qH (λw=>dg a c l m g i w K t k);have hs:=xm D;clear D;obtain⟨z,H⟩:∃z,bt g i=z:=⟨_,rfl⟩
 obtain⟨u,s⟩:∃u,lt l g i=u:=⟨_,rfl⟩
 rw[H] at F j hs;have q:=qH hs;clear hs;rw[s] at A S ⊢;have U:x - a=(i:Int):=(by omega);clear G H s t;by_cases h:u+e<=m
 · have E:decide (u+e<=m)=true:=q9T h
   have T:decide ((m:Int)<(u:Int)+(e:Int))=false:=qF (by omega);rw[A7 h,E];clear h;have hs:=q.o;go_enter func262,ntmps262;go_wp2_with (first|(go_at_call 261;(with_reducible refine(F.o _).mono ?_);rintro y d ⟨rfl,p⟩;have b:=(p.block W.heap.size (by simp)).trans (heap_alloc_new W _);have R:d.cell? ⟨W.heap.size,0,none⟩=some (.int .i64 a):=(by rw[cell_of_row d _ _ _ _ _ b];rfl);have P:d.cell? ⟨W.heap.size,1,none⟩=some (.int .i64 c):=(by rw[cell_of_row d _ _ _ _ _ b];rfl);have N:d.cell? ⟨W.heap.size,2,none⟩=some (.int .i64 l):=(by rw[cell_of_row d _ _ _ _ _ b];rfl);have r:d.cell? ⟨W.heap.size,3,none⟩=some (.int .i64 m):=(by rw[cell_of_row d _ _ _ _ _ b];rfl);have M:d.cell? ⟨W.heap.size,4,none⟩=some (.int .i64 g):=(by rw[cell_of_row d _ _ _ _ _ b];rfl);have B:=qH ((qL).trans (p.mono (by simp)));clear p b)|(go_at_call 297;(with_reducible refine(A.o _).mono ?_);rintro y O ⟨rfl,b3⟩;have Q:=(b3.cell (qB r)).trans r;have C:=qbt B b3;clear b3));exact bodyPost_ret (v:=.tuple #[.int .i64 ((u+e:Nat):Int),.bool true]) (by simp[results,results262,go_sem]) rfl ⟨rfl,C.o⟩
 · have E:decide (u+e<=m)=false:=qF h
   have T:decide ((m:Int)<(u:Int)+(e:Int))=true:=q9T (by omega);rw[A0 h,E];clear h;have hs:=q.o;go_enter func262,ntmps262;go_wp2_with (first|(go_at_call 261;(with_reducible refine(F.o _).mono ?_);rintro y d ⟨rfl,p⟩;have b:=(p.block W.heap.size (by simp)).trans (heap_alloc_new W _);have R:d.cell? ⟨W.heap.size,0,none⟩=some (.int .i64 a):=(by rw[cell_of_row d _ _ _ _ _ b];rfl);have P:d.cell? ⟨W.heap.size,1,none⟩=some (.int .i64 c):=(by rw[cell_of_row d _ _ _ _ _ b];rfl);have N:d.cell? ⟨W.heap.size,2,none⟩=some (.int .i64 l):=(by rw[cell_of_row d _ _ _ _ _ b];rfl);have r:d.cell? ⟨W.heap.size,3,none⟩=some (.int .i64 m):=(by rw[cell_of_row d _ _ _ _ _ b];rfl);have M:d.cell? ⟨W.heap.size,4,none⟩=some (.int .i64 g):=(by rw[cell_of_row d _ _ _ _ _ b];rfl);have B:=qH ((qL).trans (p.mono (by simp)));clear p b)|(go_at_call 297;(with_reducible refine(A.o _).mono ?_);rintro y O ⟨rfl,b3⟩;have Q:=(b3.cell (qB r)).trans r;have C:=qbt B b3;clear b3));exact bodyPost_ret (v:=.tuple #[.int .i64 0,.bool false]) (by simp[results,results262,go_sem]) rfl ⟨rfl,C.o⟩
