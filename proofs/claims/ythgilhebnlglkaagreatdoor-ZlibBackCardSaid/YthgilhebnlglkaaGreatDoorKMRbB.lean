import Derived.Test.YthgilhebnlglkaaGreatDoorKMMath
import Derived.Test.YthgilhebnlglkaaGreatDoorKP8Cpy
import Derived.WalkSpells
set_option linter.all false
set_option maxHeartbeats 0
set_option maxRecDepth 1000000
open Go.Proofs.Tryz
namespace Go.Proofs.YthgilhebnlglkaaGreatDoor
section
open Go.RowKit M
variable {w w':World} {B p a:Nat} {s:ByteArray} {S T:Nat->Prop}
theorem xB:(prog.info? 5).map (λi=>(i.zero,i.size,i.bytes))=some (some (.int .u8 0),1,1):=by kernel_rfl
theorem Lr(s:ByteArray)(k m:Nat)(j:k<=s.size)(b:m=Nat.min (s.extract k s.size).size 8):
 Lib.byteCells ((s.extract k s.size).data.toList.take m)++[Value.int .u8 0,.int .u8 0,.int .u8 0,.int .u8 0,.int .u8 0,.int .u8 0,.int .u8 0,.int .u8 0].drop (0+m)=(bys (tx s/256^k) 8).map (Value.int .u8):=by
 have c:(s.extract k s.size).data.toList=s.data.toList.drop k:=by
  rw[DD,DE,DF,Aj];rw[AF,ai];exact qR
 have f:(s.extract k s.size).size=(s.data.toList.drop k).length:=(by rw[<-ai,c]);have h:=qG (s.data.toList.drop k) 8;rw[Fh] at h;unfold tx;rw[fT,h,c];rw[f] at b;generalize s.data.toList.drop k=l at b;have e:[Value.int .u8 0,.int .u8 0,.int .u8 0,.int .u8 0,.int .u8 0,.int .u8 0,.int .u8 0,.int .u8 0]=List.replicate 8 (Value.int .u8 0):=rfl;rw[e,List.drop_replicate,Aa];have d:l.take m=l.take 8:=by
  by_cases g:l.length<=8
  · have:m=l.length:=by rw[b];exact AS g
    rw[this,Aj qR,Aj g]
  · have:m=8:=by rw[b];exact Bw (by omega)
    rw[this]
 have i:8 - m=8 - l.length:=by
  have:m=min l.length 8:=b;omega
 rw[d,i];simp[Lib.byteCells,Function.comp_def]
structure Nxt(w w2:World)(g:Nat)(x0 x1 x2 x3 x4 x5 x6 x7:Int):Prop where
 d0:w2.cell? ⟨g,0,none⟩=some (.int .u8 x0)
 d1:w2.cell? ⟨g,1,none⟩=some (.int .u8 x1)
 d2:w2.cell? ⟨g,2,none⟩=some (.int .u8 x2)
 d3:w2.cell? ⟨g,3,none⟩=some (.int .u8 x3)
 d4:w2.cell? ⟨g,4,none⟩=some (.int .u8 x4)
 d5:w2.cell? ⟨g,5,none⟩=some (.int .u8 x5)
 d6:w2.cell? ⟨g,6,none⟩=some (.int .u8 x6)
 d7:w2.cell? ⟨g,7,none⟩=some (.int .u8 x7)
 o:w2.heap[w.heap.size]? =some (.cells #[.int .u8 0,.int .u8 0,.int .u8 0,.int .u8 0,.int .u8 0,.int .u8 0,.int .u8 0,.int .u8 0] 182 (0,0))
 kept:Kept NoB w w2
theorem tY(w:World)(q m:Nat)(s:ByteArray)(z:q<=s.size)(e:m=Nat.min (s.extract q s.size).size 8)(f h n o k l r x7:Int)(y:bys (tx s/256^q) 8=[f,h,n,o,k,l,r,x7]):
 ∃v,(Builtin.copy_ #[26,9] 3 #[.slice (some ⟨w.heap.size+1,0,none⟩) 8 8,.string (s.extract q s.size)]).run prog
  ((w.alloc (.cells #[.int .u8 0,.int .u8 0,.int .u8 0,.int .u8 0,.int .u8 0,.int .u8 0,.int .u8 0,.int .u8 0] 182)).alloc (.cells #[.int .u8 0,.int .u8 0,.int .u8 0,.int .u8 0,.int .u8 0,.int .u8 0,.int .u8 0,.int .u8 0] 182)).drew=.ok (goInt m) v/\
  Nxt w v (w.heap.size+1) f h n o k l r x7:=by
 have u:=Lr s q m z e;rw[y] at u;obtain⟨W,c⟩:∃W,W=((w.alloc (.cells #[.int .u8 0,.int .u8 0,.int .u8 0,.int .u8 0,.int .u8 0,.int .u8 0,.int .u8 0,.int .u8 0] 182)).alloc (.cells #[.int .u8 0,.int .u8 0,.int .u8 0,.int .u8 0,.int .u8 0,.int .u8 0,.int .u8 0,.int .u8 0] 182)).drew:=⟨_,rfl⟩
 have i:(w.alloc (.cells #[.int .u8 0,.int .u8 0,.int .u8 0,.int .u8 0,.int .u8 0,.int .u8 0,.int .u8 0,.int .u8 0] 182)).heap.size=w.heap.size+1:=(by simp);have x:W.heap[w.heap.size+1]? =some (.cells #[.int .u8 0,.int .u8 0,.int .u8 0,.int .u8 0,.int .u8 0,.int .u8 0,.int .u8 0,.int .u8 0] 182 (0,0)):=by
  rw[c,<-i];exact heap_alloc_new _ _
 have d:W.heap[w.heap.size]? =some (.cells #[.int .u8 0,.int .u8 0,.int .u8 0,.int .u8 0,.int .u8 0,.int .u8 0,.int .u8 0,.int .u8 0] 182 (0,0)):=by
  rw[c];refine(Below.heap_alloc (w.alloc (.cells #[.int .u8 0,.int .u8 0,.int .u8 0,.int .u8 0,.int .u8 0,.int .u8 0,.int .u8 0,.int .u8 0] 182)) _ w.heap.size (by omega)).trans ?_
  exact heap_alloc_new _ _
 have A:Kept NoB w W:=(by rw[c];exact(((Kept.refl NoB w).alloc _).alloc _).drew);rw[<-c];clear c
 have g:=aD (P:= prog) W 26 9 3 5 (w.heap.size+1) 0 8 8 m (s.extract q s.size) _ 182 underlying26 (by kernel_rfl) x e (by
  have:m<=8:=(by rw[e];exact DG _ _);show 0+m<=8;omega)
 rw[show(#[Value.int .u8 0,.int .u8 0,.int .u8 0,.int .u8 0,.int .u8 0,.int .u8 0,.int .u8 0,.int .u8 0]:Array Value).toList=[Value.int .u8 0,.int .u8 0,.int .u8 0,.int .u8 0,.int .u8 0,.int .u8 0,.int .u8 0,.int .u8 0] from rfl,BX,Ap,u] at g;refine⟨_,g,?_⟩;have b:=λj=>cell_setRow_same W (w.heap.size+1) j _ (([f,h,n,o,k,l,r,x7].map (Value.int .u8)).toArray) _ _ x
 exact⟨b 0,b 1,b 2,b 3,b 4,b 5,b 6,b 7,(setRow_other _ _ _ _ (by omega)).trans d,A.setRow _ (.inr (by omega)) _⟩
theorem y8(h:Rd w B p s a)(hs:s.size<=100000000):
 Calls prog 285 #[.pointer (some ⟨p,0,none⟩)] w λe w'=>e=.returned (.agg ((bys (tx s/256^(a/8)) 8).map (Value.int .u8)).toArray)/\Kept NoB w w':=by
 have E:=h.c1;have J:=h.c2;have t:=h.le;have hp:=h.lt;have u:a/8<=s.size:=(by omega);have G:IntKind.i64.wrap ((a:Int) /8)=((a/8:Nat):Int):=(by rw[IntWalk.i64_in _ ⟨by omega,by omega⟩];omega);generalize C:a/8=q at G u ⊢;obtain⟨d,g,i,j,k,l,m,n,r⟩:∃d g i j k l m n,bys (tx s/256^q) 8=[d,g,i,j,k,l,m,n]:=⟨_,_,_,_,_,_,_,_,rfl⟩
 obtain⟨c,y,x⟩:=tY w q _ s u rfl d g i j k l m n r;obtain⟨I,M,b⟩:=qh3 y r x;clear h r y x C t;go_enter func285,ntmps285;go_wp2_with fail
 go_region_law (refine cg rfl _ _ _ _ rfl _ _ rfl rfl I.o ?_)
 all_goals
  have d0:=b.o.d0;have Z:=b.o.d1;have d2:=b.o.d2;have d3:=b.o.d3;have d4:=b.o.d4;have d5:=b.o.d5;have d6:=b.o.d6;have d7:=b.o.d7;have O:c.cell? ⟨w.heap.size,0,none⟩=some (.int .u8 0):=(by have:=b.o.o;simp[World.cell?,this]);have f0:c.frozen? ⟨w.heap.size,0,none⟩=false:=(by have:=b.o.o;simp[World.frozen?,this]);have H:c.cell? ⟨w.heap.size,1,none⟩=some (.int .u8 0):=(by have:=b.o.o;simp[World.cell?,this]);have f1:c.frozen? ⟨w.heap.size,1,none⟩=false:=(by have:=b.o.o;simp[World.frozen?,this]);have Q:c.cell? ⟨w.heap.size,2,none⟩=some (.int .u8 0):=(by have:=b.o.o;simp[World.cell?,this]);have f2:c.frozen? ⟨w.heap.size,2,none⟩=false:=(by have:=b.o.o;simp[World.frozen?,this]);have D:c.cell? ⟨w.heap.size,3,none⟩=some (.int .u8 0):=(by have:=b.o.o;simp[World.cell?,this]);have f3:c.frozen? ⟨w.heap.size,3,none⟩=false:=(by have:=b.o.o;simp[World.frozen?,this]);have U:c.cell? ⟨w.heap.size,4,none⟩=some (.int .u8 0):=(by have:=b.o.o;simp[World.cell?,this]);have f4:c.frozen? ⟨w.heap.size,4,none⟩=false:=(by have:=b.o.o;simp[World.frozen?,this]);have N:c.cell? ⟨w.heap.size,5,none⟩=some (.int .u8 0):=(by have:=b.o.o;simp[World.cell?,this]);have Y:c.frozen? ⟨w.heap.size,5,none⟩=false:=(by have:=b.o.o;simp[World.frozen?,this]);have K:c.cell? ⟨w.heap.size,6,none⟩=some (.int .u8 0):=(by have:=b.o.o;simp[World.cell?,this]);have f6:c.frozen? ⟨w.heap.size,6,none⟩=false:=(by have:=b.o.o;simp[World.frozen?,this]);have V:c.cell? ⟨w.heap.size,7,none⟩=some (.int .u8 0):=(by have:=b.o.o;simp[World.cell?,this]);have f7:c.frozen? ⟨w.heap.size,7,none⟩=false:=(by have:=b.o.o;simp[World.frozen?,this]);clear E J;go_wp2_with fail;have A:(c.setCell ⟨w.heap.size,0,none⟩ (.int .u8 d)).cell? ⟨w.heap.size,0,none⟩=some (.int .u8 d):=rset_eq O;have z:((c.setCell ⟨w.heap.size,0,none⟩ (.int .u8 d)).setCell ⟨w.heap.size,1,none⟩ (.int .u8 g)).cell? ⟨w.heap.size,1,none⟩=some (.int .u8 g):=rset_eq ((rset_ne (by decide)).trans H);have W:(((c.setCell ⟨w.heap.size,0,none⟩ (.int .u8 d)).setCell ⟨w.heap.size,1,none⟩ (.int .u8 g)).setCell ⟨w.heap.size,2,none⟩ (.int .u8 i)).cell? ⟨w.heap.size,2,none⟩=some (.int .u8 i):=rset_eq ((rset_ne (by decide)).trans ((rset_ne (by decide)).trans Q));have R:((((c.setCell ⟨w.heap.size,0,none⟩ (.int .u8 d)).setCell ⟨w.heap.size,1,none⟩ (.int .u8 g)).setCell ⟨w.heap.size,2,none⟩ (.int .u8 i)).setCell ⟨w.heap.size,3,none⟩ (.int .u8 j)).cell? ⟨w.heap.size,3,none⟩=some (.int .u8 j):=rset_eq ((rset_ne (by decide)).trans ((rset_ne (by decide)).trans ((rset_ne (by decide)).trans D)));have F:(((((c.setCell ⟨w.heap.size,0,none⟩ (.int .u8 d)).setCell ⟨w.heap.size,1,none⟩ (.int .u8 g)).setCell ⟨w.heap.size,2,none⟩ (.int .u8 i)).setCell ⟨w.heap.size,3,none⟩ (.int .u8 j)).setCell ⟨w.heap.size,4,none⟩ (.int .u8 k)).cell? ⟨w.heap.size,4,none⟩=some (.int .u8 k):=rset_eq ((rset_ne (by decide)).trans ((rset_ne (by decide)).trans ((rset_ne (by decide)).trans ((rset_ne (by decide)).trans U))));have L:((((((c.setCell ⟨w.heap.size,0,none⟩ (.int .u8 d)).setCell ⟨w.heap.size,1,none⟩ (.int .u8 g)).setCell ⟨w.heap.size,2,none⟩ (.int .u8 i)).setCell ⟨w.heap.size,3,none⟩ (.int .u8 j)).setCell ⟨w.heap.size,4,none⟩ (.int .u8 k)).setCell ⟨w.heap.size,5,none⟩ (.int .u8 l)).cell? ⟨w.heap.size,5,none⟩=some (.int .u8 l):=rset_eq ((rset_ne (by decide)).trans ((rset_ne (by decide)).trans ((rset_ne (by decide)).trans ((rset_ne (by decide)).trans ((rset_ne (by decide)).trans N)))));have X:(((((((c.setCell ⟨w.heap.size,0,none⟩ (.int .u8 d)).setCell ⟨w.heap.size,1,none⟩ (.int .u8 g)).setCell ⟨w.heap.size,2,none⟩ (.int .u8 i)).setCell ⟨w.heap.size,3,none⟩ (.int .u8 j)).setCell ⟨w.heap.size,4,none⟩ (.int .u8 k)).setCell ⟨w.heap.size,5,none⟩ (.int .u8 l)).setCell ⟨w.heap.size,6,none⟩ (.int .u8 m)).cell? ⟨w.heap.size,6,none⟩=some (.int .u8 m):=rset_eq ((rset_ne (by decide)).trans ((rset_ne (by decide)).trans ((rset_ne (by decide)).trans ((rset_ne (by decide)).trans ((rset_ne (by decide)).trans ((rset_ne (by decide)).trans K))))));have P:((((((((c.setCell ⟨w.heap.size,0,none⟩ (.int .u8 d)).setCell ⟨w.heap.size,1,none⟩ (.int .u8 g)).setCell ⟨w.heap.size,2,none⟩ (.int .u8 i)).setCell ⟨w.heap.size,3,none⟩ (.int .u8 j)).setCell ⟨w.heap.size,4,none⟩ (.int .u8 k)).setCell ⟨w.heap.size,5,none⟩ (.int .u8 l)).setCell ⟨w.heap.size,6,none⟩ (.int .u8 m)).setCell ⟨w.heap.size,7,none⟩ (.int .u8 n)).cell? ⟨w.heap.size,7,none⟩=some (.int .u8 n):=rset_eq ((rset_ne (by decide)).trans ((rset_ne (by decide)).trans ((rset_ne (by decide)).trans ((rset_ne (by decide)).trans ((rset_ne (by decide)).trans ((rset_ne (by decide)).trans ((rset_ne (by decide)).trans V)))))));refine bodyPost_ret (v:=.agg #[.int .u8 d,.int .u8 g,.int .u8 i,.int .u8 j,.int .u8 k,.int .u8 l,.int .u8 m,.int .u8 n]) (by simp[results,results285,go_sem,A,z,W,R,F,L,X,P]) rfl ⟨by rw[M.o];rfl,?_⟩;exact((((((((b.o.kept.setCell ⟨w.heap.size,0,none⟩ (.inr qR) (.int .u8 d)).setCell ⟨w.heap.size,1,none⟩ (.inr qR) (.int .u8 g)).setCell ⟨w.heap.size,2,none⟩ (.inr qR) (.int .u8 i)).setCell ⟨w.heap.size,3,none⟩ (.inr qR) (.int .u8 j)).setCell ⟨w.heap.size,4,none⟩ (.inr qR) (.int .u8 k)).setCell ⟨w.heap.size,5,none⟩ (.inr qR) (.int .u8 l)).setCell ⟨w.heap.size,6,none⟩ (.inr qR) (.int .u8 m)).setCell ⟨w.heap.size,7,none⟩ (.inr qR) (.int .u8 n))
end
section
open Go.RowKit M
variable {w w':World} {B p a:Nat} {s:ByteArray} {S T:Nat->Prop}
theorem LP(w:World)(N k:Nat)(c:k<8):
 (Instr.index 182 (.agg ((bys N 8).map (Value.int .u8)).toArray) (.int .i64 k)).run prog w=.ok (.int .u8 ((N/256^k%256:Nat):Int)) w:=by
 have b:k=0\/k=1\/k=2\/k=3\/k=4\/k=5\/k=6\/k=7:=(by omega);rcases b with rfl|rfl|rfl|rfl|rfl|rfl|rfl|rfl<;>rfl
theorem look_any(h:Rd w B p s a)(hs:s.size<=100000000)(n:Nat)(O:n<=56):
 Calls prog 251 #[.pointer (some ⟨p,0,none⟩),.int .i64 n] w λe w'=>e=.returned (.int .u64 (nb s a n))/\Kept NoB w w':=by
 obtain⟨N,q⟩:∃N,tx s/256^(a/8)=N:=⟨_,rfl⟩
 have d:=y8 h hs;rw[q] at d;generalize C:Value.agg ((bys N 8).map (Value.int .u8)).toArray=V at d;obtain⟨J,F⟩:=qh2 d h;have c:=LP;obtain⟨M,H⟩:=qh2 q C;have P:a<=800000000:=(by have:=h.le;omega);clear d h q C;go_enter func251,ntmps251;go_wp2_with fail;refine J.o.mono ?_;rintro e K ⟨rfl,v⟩;have L:=qH (F.o.same v);have D:=qH v;clear v;go_wp2_with fail
 go_loop [5,10] (λu i=> ∃k:Nat,k<=8/\i=.int .i64 k/\u=.int .u64 (N%256^k:Nat)) (λ_ i=>8 - (intOf i).toNat)
 case atStart=>exact⟨0,qZ,rfl,by simp[CK]⟩
 case round=>
  obtain⟨k,Q,rfl,rfl⟩:=hrel;by_cases l:k<8
  · have y:=c K N k l
    rw[H.o] at y;have t:=Gq N k l;obtain⟨b,m⟩:∃b,N/256^k%256=b:=⟨_,rfl⟩
    obtain⟨u,j⟩:∃u,N%256^k=u:=⟨_,rfl⟩
    obtain⟨u',g⟩:∃u',N%256^(k+1)=u':=⟨_,rfl⟩
    rw[m] at y;rw[m,j,g] at t;rw[j];have E:b<256:=(by rw[<-m];exact AR _ (by decide));have x:=qH g;clear j g m c;go_wp2_with fail
    go_round
    case rel=>exact⟨k+1,by omega,by go_num,by rw[x.o]⟩
    case measure=>simp[intOf];omega
  · obtain rfl:k=8:=by omega
    generalize j:N%256^8=u;have R:=L.o.c2;have I:(a:Int).tmod 8=((a%8:Nat):Int):=(by rw[BE (by omega)];rfl);generalize A:a%8=r at I;obtain⟨x,G⟩:=qh2 j A;clear j A c;go_wp2_with fail
    go_quiet ((go_at_call 270;exact Calls.quiet_of_same ((eM n _ (by omega)).mono (by rintro e w' ⟨rfl,rfl⟩;exact⟨rfl,rfl⟩))))
    go_wp2_with fail;go_ret;exact⟨congrArg (λz=>Ending.returned (.int .u64 z)) (yC s a n N u r O M.o x.o G.o),D.o.drewN _⟩
def Got(w:World)(B p:Nat)(s:ByteArray)(v:Value)(r:Nat)(e:Ending)(w':World):Prop:=
 e=.returned v/\Rd w' B p s r/\Kept (λj=>j=p) w w'
theorem Got.same(h:Rd w B p s a)(b:Kept NoB w w')(v:Value):Got w B p s v a (.returned v) w':=⟨rfl,h.same b,b.none _⟩
theorem Got.put(h:Rd w B p s a)(c:Kept NoB w w')(b:Nat)(e:b<=8*s.size)(z:Int)(g:z=(b:Int))(v:Value):Got w B p s v b (.returned v) (w'.setCell ⟨p,2,none⟩ (.int .i64 z)):=by
 have d:=(h.same c).put b e z g;exact⟨rfl,d.1,(c.none _).trans d.2 (λj f=> .inl f)⟩
theorem tu(h:Rd w B p s a)(hs:s.size<=100000000)(n:Nat)(r:n<=56)(b:a+n<=8*s.size):
 Calls prog 207 #[.pointer (some ⟨p,0,none⟩),.int .i64 n] w (Got w B p s (.tuple #[.int .u64 (nb s a n),.int .i64 0]) (a+n)):=by
 have i:=h.c0;have c:=qH h;have v:a<=800000000:=(by have:=h.le;omega);obtain⟨l,m⟩:∃l,8*s.size - a=l:=⟨_,rfl⟩
 have u:n<=l:=(by omega);obtain⟨q,t⟩:=qh2 m b;clear h m b;go_enter func207,ntmps207;go_wp2_with (go_at_call 172;refine(aI p _ i).mono ?_;rintro e w' ⟨rfl,rfl⟩);refine(iP n _ (by omega) (by omega)).mono ?_;rintro e w' ⟨rfl,rfl⟩;go_wp2_with fail;refine(eP c.o hs).mono ?_;rintro e w' ⟨rfl,k,rfl⟩;rw[q.o];go_wp2_with fail;refine(look_any (c.o.drewN k) hs n r).mono ?_;rintro e z ⟨rfl,d⟩;have j:=qH (((Kept.refl NoB w).drewN k).trans d (λ_ g=>g.elim));have R2:=qH (c.o.same j.o);have y:=R2.o.c2;have x:=R2.o.fz 2;clear d i;go_wp2_with fail;go_ret2;exact Got.put c.o j.o (a+n) t.o _ (by omega) _
theorem tv(h:Rd w B p s a)(hs:s.size<=100000000)(x:Int)(m:0<=x)(n:x<=56)(b:((8*s.size:Nat):Int) - a<x):
 Calls prog 207 #[.pointer (some ⟨p,0,none⟩),.int .i64 x] w (Got w B p s (.tuple #[.int .u64 0,.int .i64 6]) a):=by
 have k:=h.c0;have d:=qH h;obtain⟨l,c⟩:∃l,8*s.size - a=l:=⟨_,rfl⟩
 have j:(l:Int)<x:=(by have:=h.le;omega);have g:=qH c;clear h c b;go_enter func207,ntmps207;go_wp2_with (go_at_call 172;refine(aI p _ k).mono ?_;rintro e w' ⟨rfl,rfl⟩);refine(iP x _ (by omega) (by omega)).mono ?_;rintro e w' ⟨rfl,rfl⟩;go_wp2_with fail;refine(eP d.o hs).mono ?_;rintro e w' ⟨rfl,i,rfl⟩;rw[g.o];go_wp2_with fail;go_ret2;exact Got.same d.o ((Kept.refl NoB w).drewN i) _
