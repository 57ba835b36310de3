import Derived.Test.YthgilhebnlglkaaGreatDoorKMHfB
import Derived.Test.YthgilhebnlglkaaGreatDoorKMRbD
set_option linter.all false
set_option maxHeartbeats 0
set_option maxRecDepth 1000000
open Go.Proofs.Tryz
namespace Go.Proofs.YthgilhebnlglkaaGreatDoor
namespace H
open Go Go.RowKit M C
theorem uP(T p m N n f X h:Nat)(G:Nat->Nat->Nat)(D:DataW Value)(l:Nat->Nat)(W:World)(b:Fit l n)(J:1<=f)(hf:f<=15)(y:X<big)(O:h<=9223372036854775807)(H:Hp W T p m G N D l n f n):
 Calls prog 295 #[.pointer (some ⟨p,0,none⟩),.int .u64 X,.int .i64 h] W λe w'=>e=.returned (.tuple #[.int .i64 (lk l n X h).1,.int .i64 (lk l n X h).2.1,.int .i64 (lk l n X h).2.2])/\Below W.heap.size W w':=by
 have s:=qH (λw=>oA (h:Int) w);have g:=eY X (min h 64) y (DG _ _);have C:X%2^min h 64<big:=CI (Nat.mod_le _ _) y;have k:=qH (λw H=>find_any T p m N n f (X%2^min h 64) G D l w b J hf C H);have t:=H.c1;have u:=qH H;have v:Hd (lk l n X h=if(fnd l n (X%2^min h 64) n).2=0 then(0,0,7) else if h<(fnd l n (X%2^min h 64) n).2 then(0,0,6) else((fnd l n (X%2^min h 64) n).1,(fnd l n (X%2^min h 64) n).2,0)):=qH rfl;have q:(fnd l n (X%2^min h 64) n).1<320/\(fnd l n (X%2^min h 64) n).2<=15:=by
  have z:=b.1.1;rcases cH l n (X%2^min h 64) n with⟨i,E,x,M⟩|⟨E,x⟩
  · rw[M];exact⟨by omega,b.1.2 i E⟩
  · rw[x];exact⟨by omega,by omega⟩
 rw[Au] at s;obtain⟨V,j⟩:∃V,X%2^min h 64=V:=⟨_,rfl⟩
 generalize I:mk (min h 64)=K at g s;rw[j] at g k v q;obtain⟨a,F⟩:∃a,(fnd l n V n).1=a:=⟨_,rfl⟩
 obtain⟨d,L⟩:∃d,(fnd l n V n).2=d:=⟨_,rfl⟩
 rw[F,L] at k v q;clear C j I H;rw[v.o];by_cases c1:d=0
 · rw[A7 c1]
   subst c1;go_enter func295,ntmps295;go_wp2_with fail;refine(fC p m _ t).mono ?_;rintro e r ⟨rfl,rfl⟩;go_wp2_with fail;refine(s.o _).mono ?_;rintro e r ⟨rfl,rfl⟩;go_wp2_with fail;refine(k.o _ u.o).mono ?_;rintro e A ⟨rfl,b3⟩;have c:=qH b3;clear b3;go_wp2_with fail;go_ret3;exact⟨rfl,c.o.alloc c.o.size _⟩
 · rw[A0 c1]
   have P:((d:Int)==0)=false:=(by rw[qN];omega);by_cases B:h<d
   · rw[A7 B]
     go_enter func295,ntmps295;go_wp2_with fail;refine(fC p m _ t).mono ?_;rintro e r ⟨rfl,rfl⟩;go_wp2_with fail;refine(s.o _).mono ?_;rintro e r ⟨rfl,rfl⟩;go_wp2_with fail;refine(k.o _ u.o).mono ?_;rintro e A ⟨rfl,b3⟩;have c:=qH b3;clear b3;go_wp2_with fail;go_ret3;exact⟨rfl,c.o.alloc c.o.size _⟩
   · rw[A0 B]
     go_enter func295,ntmps295;go_wp2_with fail;refine(fC p m _ t).mono ?_;rintro e r ⟨rfl,rfl⟩;go_wp2_with fail;refine(s.o _).mono ?_;rintro e r ⟨rfl,rfl⟩;go_wp2_with fail;refine(k.o _ u.o).mono ?_;rintro e A ⟨rfl,b3⟩;have c:=qH b3;clear b3;go_wp2_with fail
     go_quiet (fail)
     go_wp2_with fail;go_ret3;exact⟨rfl,aj (c.o.alloc c.o.size _) _⟩
def gnext(l:Nat->Nat)(n:Nat)(s:ByteArray)(a:Nat):Nat×Nat×Nat:=
 if(lk l n (nb s a (min 15 (8*s.size - a))) (min 15 (8*s.size - a))).2.2=0 then((lk l n (nb s a (min 15 (8*s.size - a))) (min 15 (8*s.size - a))).1,0,a+(lk l n (nb s a (min 15 (8*s.size - a))) (min 15 (8*s.size - a))).2.1)
 else(0,(lk l n (nb s a (min 15 (8*s.size - a))) (min 15 (8*s.size - a))).2.2,a)
section
variable {w w':World} {B q a:Nat} {s:ByteArray}
end
theorem hnext_kept(T p m N n f:Nat)(G:Nat->Nat->Nat)(D:DataW Value)(l:Nat->Nat)(W:World)(B q a:Nat)(s:ByteArray)(b:Fit l n)(V:1<=f)(hf:f<=15)(H:∀w',Kept (λj=>j=q) W w'->Hp w' T p m G N D l n f n)(R:Rd W B q s a)(hs:s.size<=100000000):
 Calls prog 260 #[.pointer (some ⟨p,0,none⟩),.pointer (some ⟨q,0,none⟩)] W (Got W B q s (.tuple #[.int .i64 (gnext l n s a).1,.int .i64 (gnext l n s a).2.1]) (gnext l n s a).2.2):=by
 have a0:=R.le;have O:=qH (jX R hs 0 (by omega));have r:=eO (l:=l) (n:=n) (X:=nb s a (min 15 (8*s.size - a))) (h:=min 15 (8*s.size - a)) b
 have J:Hd (gnext l n s a=if(lk l n (nb s a (min 15 (8*s.size - a))) (min 15 (8*s.size - a))).2.2=0 then((lk l n (nb s a (min 15 (8*s.size - a))) (min 15 (8*s.size - a))).1,0,a+(lk l n (nb s a (min 15 (8*s.size - a))) (min 15 (8*s.size - a))).2.1)
  else(0,(lk l n (nb s a (min 15 (8*s.size - a))) (min 15 (8*s.size - a))).2.2,a)):=qH rfl
 have L:nb s a (min 15 (8*s.size - a))<big:=Jv s a _ (by omega);have c:=qH (λw H=>uP T p m N n f (nb s a (min 15 (8*s.size - a))) (min 15 (8*s.size - a)) G D l w b V hf L (by omega) H);have g:=qH (λw (R:Rd w B q s a)=>ta R hs 15 (by decide));have A:min 15 (8*s.size - a)<=8*s.size - a:=DG _ _;generalize C:nb s a (min 15 (8*s.size - a))=X at c g J r;generalize F:min 15 (8*s.size - a)=h at c g J r A;have M:=qH H;clear H R L C F;rw[J.o];rcases r with⟨i,i1,i2,i3,_,hk⟩|hk|hk
 · rw[hk] at c ⊢
   rw[A7 rfl];have I:=b.1.2 i i1;dsimp only at c ⊢;generalize hz:l i=z at c i3 I ⊢;go_enter func260,ntmps260;go_wp2_with fail;refine O.o.mono ?_;rintro e Z ⟨rfl,u,y⟩;obtain⟨R2,E⟩:=qh2 u y;clear u y;go_wp2_with fail;refine(g.o _ R2.o).mono ?_;rintro e Y ⟨rfl,x,v⟩;have R3:=qH x;have t:=qH (E.o.trans v (λj d=> .inl d));clear x v;go_wp2_with fail;refine(c.o _ (M.o _ t.o)).mono ?_;rintro e S ⟨rfl,k⟩;have K:=qH (R3.o.same (Kept.of_below k));have G4:=qH (t.o.trans (Kept.of_below k) (λj d=>d.elim));clear k;go_wp2_with fail;refine(jX K.o hs z (by omega)).mono ?_;rintro e w5 ⟨rfl,Q,P⟩;have U:=qH Q;have G5:=qH (G4.o.trans P (λj d=> .inl d));clear Q P;go_wp2_with fail;go_ret2;exact⟨rfl,U.o,G5.o⟩
 all_goals (
  rw[hk] at c ⊢;rw[A0 (by decide)];dsimp only at c ⊢;go_enter func260,ntmps260;go_wp2_with fail;refine O.o.mono ?_;rintro e Z ⟨rfl,u,y⟩;obtain⟨R2,E⟩:=qh2 u y;clear u y;go_wp2_with fail;refine(g.o _ R2.o).mono ?_;rintro e Y ⟨rfl,x,v⟩;have R3:=qH x;have t:=qH (E.o.trans v (λj d=> .inl d));clear x v;go_wp2_with fail;refine(c.o _ (M.o _ t.o)).mono ?_;rintro e S ⟨rfl,k⟩;have K:=qH (R3.o.same (Kept.of_below k));have G4:=qH (t.o.trans (Kept.of_below k) (λj d=>d.elim));clear k;go_wp2_with fail;go_ret2;exact⟨rfl,K.o,G4.o⟩)
