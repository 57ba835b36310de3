import Derived.Test.YthgilhebnlglkaaGreatDoorEMHfB
import Derived.Test.YthgilhebnlglkaaGreatDoorEMRbD
set_option linter.all false
set_option maxHeartbeats 8000000
set_option maxRecDepth 1000000
open Go.Proofs.Tryz
namespace Go.Proofs.YthgilhebnlglkaaGreatDoor.H
open Go Go.RowKit M C
theorem zby(T p m N n f X h:Nat)(G:Nat->Nat->Nat)(D:DataW Value)(l:Nat->Nat)(W:World)(hfit:Fit l n)(h1:1<=f)(hf:f<=15)(hX:X<big)(hh:h<=9223372036854775807)(H:Hp W T p m G N D l n f n):
 Calls prog 295 #[.pointer (some ⟨p,0,none⟩),.int .u64 X,.int .i64 h] W λe w'=>e=.returned (.tuple #[.int .i64 (lk l n X h).1,.int .i64 (lk l n X h).2.1,.int .i64 (lk l n X h).2.2])/\Below W.heap.size W w':=by
 have HM:=qH (λw=>z7I (h:Int) w);have hand:=z2K X (min h 64) hX (Nat.min_le_right _ _);have hV:X%2^min h 64<big:=Nat.lt_of_le_of_lt (Nat.mod_le _ _) hX;have HF:=qH (λw H=>zeg T p m N n f (X%2^min h 64) G D l w hfit h1 hf hV H);have hc:=H.c1;have HH:=qH H;have HL:Hd (lk l n X h=if(fnd l n (X%2^min h 64) n).2=0 then(0,0,7) else if h<(fnd l n (X%2^min h 64) n).2 then(0,0,6) else((fnd l n (X%2^min h 64) n).1,(fnd l n (X%2^min h 64) n).2,0)):=qH rfl;have hsm:(fnd l n (X%2^min h 64) n).1<320/\(fnd l n (X%2^min h 64) n).2<=15:=by
  have h320:=hfit.1.1;rcases z1k l n (X%2^min h 64) n with⟨i,i1,i2,i3⟩|⟨i1,i2⟩
  · rw[i3];exact⟨by omega,hfit.1.2 i i1⟩
  · rw[i2];exact⟨by omega,by omega⟩
 rw[Int.toNat_natCast] at HM;obtain⟨V,hVn⟩:∃V,X%2^min h 64=V:=⟨_,rfl⟩
 generalize hK:mk (min h 64)=K at hand HM;rw[hVn] at hand HF HL hsm;obtain⟨a,ha⟩:∃a,(fnd l n V n).1=a:=⟨_,rfl⟩
 obtain⟨d,hd⟩:∃d,(fnd l n V n).2=d:=⟨_,rfl⟩
 rw[ha,hd] at HF HL hsm;clear hV hVn hK H;rw[HL.o];by_cases c1:d=0
 · rw[if_pos c1]
   subst c1;go_enter func295,ntmps295;go_wp2_with fail;refine(z3a p m _ hc).mono ?_;rintro e w2 ⟨rfl,rfl⟩;go_wp2_with fail;refine(HM.o _).mono ?_;rintro e w2 ⟨rfl,rfl⟩;go_wp2_with fail;refine(HF.o _ HH.o).mono ?_;rintro e w3 ⟨rfl,b3⟩;have B3:=qH b3;clear b3;go_wp2_with fail;go_ret3;exact⟨rfl,B3.o.alloc B3.o.size _⟩
 · rw[if_neg c1]
   have e0:((d:Int)==0)=false:=(by rw[qN];omega);by_cases c2:h<d
   · rw[if_pos c2]
     go_enter func295,ntmps295;go_wp2_with fail;refine(z3a p m _ hc).mono ?_;rintro e w2 ⟨rfl,rfl⟩;go_wp2_with fail;refine(HM.o _).mono ?_;rintro e w2 ⟨rfl,rfl⟩;go_wp2_with fail;refine(HF.o _ HH.o).mono ?_;rintro e w3 ⟨rfl,b3⟩;have B3:=qH b3;clear b3;go_wp2_with fail;go_ret3;exact⟨rfl,B3.o.alloc B3.o.size _⟩
   · rw[if_neg c2]
     go_enter func295,ntmps295;go_wp2_with fail;refine(z3a p m _ hc).mono ?_;rintro e w2 ⟨rfl,rfl⟩;go_wp2_with fail;refine(HM.o _).mono ?_;rintro e w2 ⟨rfl,rfl⟩;go_wp2_with fail;refine(HF.o _ HH.o).mono ?_;rintro e w3 ⟨rfl,b3⟩;have B3:=qH b3;clear b3;go_wp2_with fail
     go_quiet (fail)
     go_wp2_with fail;go_ret3;exact⟨rfl,z0b (B3.o.alloc B3.o.size _) _⟩
def gnext(l:Nat->Nat)(n:Nat)(s:ByteArray)(a:Nat):Nat×Nat×Nat:=
 if(lk l n (nb s a (min 15 (8*s.size - a))) (min 15 (8*s.size - a))).2.2=0 then((lk l n (nb s a (min 15 (8*s.size - a))) (min 15 (8*s.size - a))).1,0,a+(lk l n (nb s a (min 15 (8*s.size - a))) (min 15 (8*s.size - a))).2.1)
 else(0,(lk l n (nb s a (min 15 (8*s.size - a))) (min 15 (8*s.size - a))).2.2,a)
section
variable {w w':World} {B q a:Nat} {s:ByteArray}
end
theorem hnext_kept(T p m N n f:Nat)(G:Nat->Nat->Nat)(D:DataW Value)(l:Nat->Nat)(W:World)(B q a:Nat)(s:ByteArray)(hfit:Fit l n)(h1:1<=f)(hf:f<=15)(H:∀w',Kept (λj=>j=q) W w'->Hp w' T p m G N D l n f n)(R:Rd W B q s a)(hs:s.size<=100000000):
 Calls prog 260 #[.pointer (some ⟨p,0,none⟩),.pointer (some ⟨q,0,none⟩)] W (Got W B q s (.tuple #[.int .i64 (gnext l n s a).1,.int .i64 (gnext l n s a).2.1]) (gnext l n s a).2.2):=by
 have hle:=R.le;have HR:=qH (z5k R hs 0 (by omega));have hcs:=z2A (l:=l) (n:=n) (X:=nb s a (min 15 (8*s.size - a))) (h:=min 15 (8*s.size - a)) hfit
 have HG:Hd (gnext l n s a=if(lk l n (nb s a (min 15 (8*s.size - a))) (min 15 (8*s.size - a))).2.2=0 then((lk l n (nb s a (min 15 (8*s.size - a))) (min 15 (8*s.size - a))).1,0,a+(lk l n (nb s a (min 15 (8*s.size - a))) (min 15 (8*s.size - a))).2.1)
  else(0,(lk l n (nb s a (min 15 (8*s.size - a))) (min 15 (8*s.size - a))).2.2,a)):=qH rfl
 have hX:nb s a (min 15 (8*s.size - a))<big:=ziN s a _ (by omega);have HL:=qH (λw H=>zby T p m N n f (nb s a (min 15 (8*s.size - a))) (min 15 (8*s.size - a)) G D l w hfit h1 hf hX (by omega) H);have HPK:=qH (λw (R:Rd w B q s a)=>zak R hs 15 (by decide));have hhl:min 15 (8*s.size - a)<=8*s.size - a:=Nat.min_le_right _ _;generalize hXn:nb s a (min 15 (8*s.size - a))=X at HL HPK HG hcs;generalize hhn:min 15 (8*s.size - a)=h at HL HPK HG hcs hhl;have HH:=qH H;clear H R hX hXn hhn;rw[HG.o];rcases hcs with⟨i,i1,i2,i3,_,hk⟩|hk|hk
 · rw[hk] at HL ⊢
   rw[if_pos rfl];have h15:=hfit.1.2 i i1;dsimp only at HL ⊢;generalize hz:l i=z at HL i3 h15 ⊢;go_enter func260,ntmps260;go_wp2_with fail;refine HR.o.mono ?_;rintro e w2 ⟨rfl,r2,g2⟩;obtain⟨R2,G2⟩:=qh2 r2 g2;clear r2 g2;go_wp2_with fail;refine(HPK.o _ R2.o).mono ?_;rintro e w3 ⟨rfl,r3,g3⟩;have R3:=qH r3;have G3:=qH (G2.o.trans g3 (λj hj=> .inl hj));clear r3 g3;go_wp2_with fail;refine(HL.o _ (HH.o _ G3.o)).mono ?_;rintro e w4 ⟨rfl,b4⟩;have R4:=qH (R3.o.same (Kept.of_below b4));have G4:=qH (G3.o.trans (Kept.of_below b4) (λj hj=>hj.elim));clear b4;go_wp2_with fail;refine(z5k R4.o hs z (by omega)).mono ?_;rintro e w5 ⟨rfl,r5,g5⟩;have R5:=qH r5;have G5:=qH (G4.o.trans g5 (λj hj=> .inl hj));clear r5 g5;go_wp2_with fail;go_ret2;exact⟨rfl,R5.o,G5.o⟩
 all_goals (
  rw[hk] at HL ⊢;rw[if_neg (by decide)];dsimp only at HL ⊢;go_enter func260,ntmps260;go_wp2_with fail;refine HR.o.mono ?_;rintro e w2 ⟨rfl,r2,g2⟩;obtain⟨R2,G2⟩:=qh2 r2 g2;clear r2 g2;go_wp2_with fail;refine(HPK.o _ R2.o).mono ?_;rintro e w3 ⟨rfl,r3,g3⟩;have R3:=qH r3;have G3:=qH (G2.o.trans g3 (λj hj=> .inl hj));clear r3 g3;go_wp2_with fail;refine(HL.o _ (HH.o _ G3.o)).mono ?_;rintro e w4 ⟨rfl,b4⟩;have R4:=qH (R3.o.same (Kept.of_below b4));have G4:=qH (G3.o.trans (Kept.of_below b4) (λj hj=>hj.elim));clear b4;go_wp2_with fail;go_ret2;exact⟨rfl,R4.o,G4.o⟩)
