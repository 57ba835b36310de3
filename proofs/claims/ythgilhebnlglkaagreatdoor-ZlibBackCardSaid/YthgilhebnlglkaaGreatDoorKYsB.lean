import Derived.Test.YthgilhebnlglkaaGreatDoorKMRsC
import Derived.Deep.RegionHeld3
import Derived.LoopNIn
set_option linter.all false
set_option maxHeartbeats 0
set_option maxRecDepth 1000000
open Go.Proofs.Tryz
namespace Go.Proofs.YthgilhebnlglkaaGreatDoor
namespace Y
open Go Go.RowKit M
structure Fnd(L:Nat->Nat)(c n i:Nat):Prop where
 le:i<=c
 lo:i=0\/L (i - 1)<=n
 hi:i=c\/n<L i
def Iq(L:Nat->Nat)(c n:Nat)(W:World)(e:Ending)(w':World):Prop:=∃i:Nat,e=.returned (.int .i64 i)/\Fnd L c n i/\Below W.heap.size W w'
theorem qg(k e a c l m g n:Nat)(W:World)(y:l<=3)(x:g=1\/g=2)(Q:c<=32)(H:Bx W k e a c l m g n):
 Calls prog 342 #[.int .i64 c,.func (.func 341) #[] #[.pointer (some ⟨k,0,none⟩),.pointer (some ⟨e,0,none⟩)]] W (Iq (lt l g) c n W):=by
 have M:=qH (λ(w:World) (p:Nat) (L:p<32) (h:Bx w k e a c l m g n)=>rC k e a c l m g n p w y x L h);obtain⟨K,B⟩:=qh2 H H.lt;clear H y x;go_enter func342,ntmps342;go_wp2_with fail
 go_loopw [5,6] (λi j w=> ∃a d:Nat,i=.int .i64 a/\j=.int .i64 d/\a<=d/\d<=c/\(a=0\/lt l g (a - 1)<=n)/\(d=c\/n<lt l g d)/\Below W.heap.size W w) (λi j _=>((intOf j) - (intOf i)).toNat)
 case atStart=>exact⟨0,c,rfl,rfl,by omega,qR,.inl rfl,.inl rfl,Below.refl _ _⟩
 case round=>
  obtain⟨a,d,rfl,rfl,R,O,D,E,F⟩:=hrel;obtain⟨G,A,s⟩:=qh3 D E F;clear D E F;by_cases P:a<d
  · obtain⟨h,N⟩:∃h,(a+d) /2=h:=⟨_,rfl⟩
    have J:a<=h:=(by omega);have I:h<d:=(by omega);have u:h<32:=(by omega);have S:((a:Int)+(d:Int)) /2=(h:Int):=(by omega);clear N;obtain⟨v,r⟩:∃v,lt l g h=v:=⟨_,rfl⟩
    have C:=qH r;have b:=qH (M.o _ h u (K.o.below s.o B.o.1 B.o.2));rw[r] at b;clear r;go_wp2_with (go_at_call 341;(with_reducible refine qcb s b.o ?_);intro T z)
    · rename_i q
      have t:v<=n:=(by simpa using q);exact⟨⟨h+1,d,by go_num,rfl,by omega,by omega,.inr (by rw[Bo,C.o];exact t),A.o,z.o⟩,by simp only[intOf];omega⟩
    · rename_i q
      have t:n<v:=(by simpa using q);exact⟨⟨a,h,rfl,rfl,by omega,by omega,G.o,.inr (by rw[C.o];exact t),z.o⟩,by simp only[intOf];omega⟩
  · obtain rfl:a=d:=by omega
    go_wp2_with fail;go_ret;exact⟨a,rfl,⟨O,G.o,A.o⟩,s.o⟩
structure Plc(L:Nat->Nat)(c n i:Nat):Prop where
 lt:i<c
 lo:L i<=n
 hi:i+1=c\/n<L (i+1)
theorem Fnd.plc{L:Nat->Nat}{c n i:Nat}(h:Fnd L c n i)(a:0<c)(b:L 0<=n):∃j,i=j+1/\Plc L c n j:=by
 match i,h with
 |0,h=>
  rcases h.hi with e|e
  · omega
  · omega
 |j+1,h=>
  refine⟨j,rfl,⟨by have:=h.le;omega,?_,h.hi⟩⟩;rcases h.lo with e|e
  · omega
  · exact e
theorem eo(a c l m g n:Nat)(W:World)(ha:a<=257)(L:0<c)(hc:c<=32)(T:l<=3)(y:g=1\/g=2)(hm:m<=32768)(hn:l<=n/\n<=m):
 Calls prog 330 #[.agg #[.int .i64 a,.int .i64 c,.int .i64 l,.int .i64 m,.int .i64 g],.int .i64 n] W λe w'=> ∃i,Plc (lt l g) c n i/\e=.returned (.tuple #[.int .i64 (a+i:Nat),.int .u32 (n - lt l g i:Nat),.int .i64 (bt g i:Nat),.bool true])/\Below W.heap.size W w':=by
 obtain⟨E,a3⟩:=hn;have a2:decide (n<l)=false:=qF (by omega);have a0:decide (m<n)=false:=qF (by omega);have q:lt l g 0<=n:=(by unfold lt;simp;exact E);have HS:=qH (λ(br Z:Nat) (W:World) (h:Bx W br Z a c l m g n)=>qg br Z a c l m g n W T y hc h);have r:=qH (λ(p:Nat) (w:World) (b:p<32)=>dg a c l m g p w T y b);have k:=qH (λ(p:Nat) (w:World) (b:p<32)=>dY a c l m g p w y b);have s:=qH q;clear q y;go_enter func330,ntmps330;go_wp2_with (go_at_call 342;(with_reducible refine(HS.o W.heap.size (W.heap.size+1) _ ⟨by simp,by simp,by simp,by simp,by simp,by simp⟩).mono ?_);rintro e w1 ⟨i0,rfl,hf,G⟩;obtain⟨i,rfl,b⟩:=hf.plc L s.o;have hi:=b.lt;have d:i<32:=(by omega);clear hf);have x:Below W.heap.size W w1:=((qL).alloc (by simp) _).trans (G.mono (by simp;omega));have HX:Bx w1 W.heap.size (W.heap.size+1) a c l m g n:=(show Bx ((W.alloc (.cells #[.int .i64 a,.int .i64 c,.int .i64 l,.int .i64 m,.int .i64 g] 346)).alloc (.cells #[.int .i64 n] 3)) W.heap.size (W.heap.size+1) a c l m g n from⟨by simp,by simp,by simp,by simp,by simp,by simp⟩).below G (by simp;omega) (by simp);obtain⟨J,F,K,C,P,I⟩:=HX;obtain⟨V,HP⟩:=qh2 x b;obtain⟨u,A⟩:∃u,lt l g i=u:=⟨_,rfl⟩
 obtain⟨z,O⟩:∃z,bt g i=z:=⟨_,rfl⟩
 have X:=qH (λw=>r.o i w d);have Y:=qH (λw=>k.o i w d);rw[A] at X;rw[O] at Y;have a1:u<=n:=(by rw[<-A];exact b.lo);have R:IntKind.i64.wrap ((a:Int)+i)=((a+i:Nat):Int):=(by rw[IntKind.wrap_i64];omega);have S:IntKind.i64.wrap ((n:Int) - u)=((n - u:Nat):Int):=(by rw[IntKind.wrap_i64];omega);have U:IntKind.u32.wrap ((n - u:Nat):Int)=((n - u:Nat):Int):=(by rw[IntKind.wrap_u32];omega);obtain⟨HU,HZ,V1,V2,V3⟩:=qh5 A O R S U;clear x b A O G HS r k s R S U
 go_region_held3 (λw'=>w'.cell? ⟨W.heap.size,0,none⟩=some (.int .i64 a)/\w'.cell? ⟨W.heap.size,1,none⟩=some (.int .i64 c)/\w'.cell? ⟨W.heap.size,2,none⟩=some (.int .i64 l)/\w'.cell? ⟨W.heap.size,3,none⟩=some (.int .i64 m)/\w'.cell? ⟨W.heap.size,4,none⟩=some (.int .i64 g)/\w'.cell? ⟨W.heap.size+1,0,none⟩=some (.int .i64 n)) (first|exact⟨g0,g1,g2,g3,g4,g5⟩|exact⟨Q,D,H,N,M,B⟩|exact⟨J,F,K,C,P,I⟩) (first
  |(go_at_call 297;(with_reducible refine(X.o _).mono ?_);rintro e w2 ⟨rfl,j⟩;have Q:=(j.cell (qB J)).trans J;have D:=(j.cell (qB F)).trans F;have H:=(j.cell (qB K)).trans K;have N:=(j.cell (qB C)).trans C;have M:=(j.cell (qB P)).trans P;have B:=(j.cell (qB I)).trans I;have B2:=qH (V.o.drew.trans (j.mono V.o.size));clear j)
  |(go_at_call 296;(with_reducible refine(Y.o _).mono ?_);rintro e w3 ⟨rfl,b3⟩;have g0:=(b3.cell (qB Q)).trans Q;have g1:=(b3.cell (qB D)).trans D;have g2:=(b3.cell (qB H)).trans H;have g3:=(b3.cell (qB N)).trans N;have g4:=(b3.cell (qB M)).trans M;have g5:=(b3.cell (qB B)).trans B;have B3:=qbt B2 b3;clear b3))
 go_wp2_with fail;refine bodyPost_ret (v:=.tuple #[.int .i64 (IntKind.i64.wrap ((a:Int)+i)),.int .u32 (IntKind.u32.wrap (IntKind.i64.wrap ((n:Int) - u))),.int .i64 z,.bool true]) (by simp[results,results330,go_sem]) rfl ⟨i,HP.o,?_,B3.o⟩;rw[V1.o,V2.o,V3.o,HU.o,HZ.o]
