import Derived.Test.YtdpabanajgegjaaGreatDoorEMHfB
import Derived.Test.YtdpabanajgegjaaGreatDoorEMRbD
namespace Go.Proofs.YtdpabanajgegjaaGreatDoor.H
open Go.Lib (hid)
open Go Go.RowKit M C
set_option linter.unusedVariables false
set_option linter.unusedSimpArgs false
set_option maxRecDepth 1000000 in
set_option maxHeartbeats 1000000 in
theorem hlook_any(T p m N n f X h:Nat)(G:Nat→Nat→Nat)(D:DataW Value)(l:Nat→Nat)(W:World)(hfit:Fit l n)(h1:1≤f)(hf:f≤15)(hX:X<big)(hh:h≤9223372036854775807)(H:Hp W T p m G N D l n f n):
 Calls Tryz.prog 210 #[.pointer (some ⟨p,0,none⟩),.int .u64 X,.int .i64 h] W fun e w'=>e=.returned (.tuple #[.int .i64 (lk l n X h).1,.int .i64 (lk l n X h).2.1,.int .i64 (lk l n X h).2.2])∧Below W.heap.size W w':=by
 have HM:=hid (fun w=>mask_any (h:Int) w);have hand:=and_mask X (min h 64) hX (Nat.min_le_right _ _);have hV:X%2^min h 64<big:=Nat.lt_of_le_of_lt (Nat.mod_le _ _) hX;have HF:=hid (fun w H=>find_any T p m N n f (X%2^min h 64) G D l w hfit h1 hf hV H);have hc:=H.c1;have HH:=hid H;have HL:Hid (lk l n X h=if(fnd l n (X%2^min h 64) n).2=0 then(0,0,7) else if h<(fnd l n (X%2^min h 64) n).2 then(0,0,6) else((fnd l n (X%2^min h 64) n).1,(fnd l n (X%2^min h 64) n).2,0)):=hid rfl
 have hsm:(fnd l n (X%2^min h 64) n).1<320∧(fnd l n (X%2^min h 64) n).2≤15:=by
  have h320:=hfit.1.1;rcases fnd_some l n (X%2^min h 64) n with⟨i,i1,i2,i3⟩|⟨i1,i2⟩
  · rw[i3];exact⟨by omega,hfit.1.2 i i1⟩
  · rw[i2];exact⟨by omega,by omega⟩
 rw[Int.toNat_natCast] at HM;obtain⟨V,hVn⟩:∃V,X%2^min h 64=V:=⟨_,rfl⟩
 obtain⟨K,hK⟩:∃K,mk (min h 64)=K:=⟨_,rfl⟩
 rw[hK] at hand HM;rw[hVn] at hand HF HL hsm;obtain⟨a,ha⟩:∃a,(fnd l n V n).1=a:=⟨_,rfl⟩
 obtain⟨d,hd⟩:∃d,(fnd l n V n).2=d:=⟨_,rfl⟩
 rw[ha,hd] at HF HL hsm;clear hV hVn hK H;rw[HL.out];by_cases c1:d=0
 · rw[if_pos c1]
   subst c1;go_enter Tryz.func210,Tryz.ntmps210;go_wp2_with fail;refine(hmade_yes p m _ hc).mono ?_;rintro e w2 ⟨rfl,rfl⟩;go_wp2_with fail;refine(HM.out _).mono ?_;rintro e w2 ⟨rfl,rfl⟩;go_wp2_with fail;refine(HF.out _ HH.out).mono ?_;rintro e w3 ⟨rfl,b3⟩;have B3:=hid b3;clear b3;go_wp2_with fail;go_ret3;exact⟨rfl,B3.out.alloc B3.out.size _⟩
 · rw[if_neg c1]
   have e0:((d:Int)==0)=false:=by rw[beq_eq_false_iff_ne];omega
   by_cases c2:h<d
   · rw[if_pos c2]
     have e1:decide ((h:Int)<(d:Int))=true:=decide_eq_true (by omega);have e2:decide (h<d)=true:=decide_eq_true (by omega);go_enter Tryz.func210,Tryz.ntmps210;go_wp2_with fail;refine(hmade_yes p m _ hc).mono ?_;rintro e w2 ⟨rfl,rfl⟩;go_wp2_with fail;refine(HM.out _).mono ?_;rintro e w2 ⟨rfl,rfl⟩;go_wp2_with fail;refine(HF.out _ HH.out).mono ?_;rintro e w3 ⟨rfl,b3⟩;have B3:=hid b3;clear b3;go_wp2_with fail;go_ret3;exact⟨rfl,B3.out.alloc B3.out.size _⟩
   · rw[if_neg c2]
     have e1:decide ((h:Int)<(d:Int))=false:=decide_eq_false (by omega);have e2:decide (h<d)=false:=decide_eq_false (by omega);go_enter Tryz.func210,Tryz.ntmps210;go_wp2_with fail;refine(hmade_yes p m _ hc).mono ?_;rintro e w2 ⟨rfl,rfl⟩;go_wp2_with fail;refine(HM.out _).mono ?_;rintro e w2 ⟨rfl,rfl⟩;go_wp2_with fail;refine(HF.out _ HH.out).mono ?_;rintro e w3 ⟨rfl,b3⟩;have B3:=hid b3;clear b3;go_wp2_with fail
     go_quiet (fail)
     go_wp2_with fail;go_ret3;exact⟨rfl,below_drewN (B3.out.alloc B3.out.size _) _⟩
def gnext(l:Nat→Nat)(n:Nat)(s:ByteArray)(a:Nat):Nat×Nat×Nat:=
 if(lk l n (nb s a (min 15 (8*s.size - a))) (min 15 (8*s.size - a))).2.2=0 then((lk l n (nb s a (min 15 (8*s.size - a))) (min 15 (8*s.size - a))).1,0,a+(lk l n (nb s a (min 15 (8*s.size - a))) (min 15 (8*s.size - a))).2.1)
 else(0,(lk l n (nb s a (min 15 (8*s.size - a))) (min 15 (8*s.size - a))).2.2,a)
section
variable {w w':World} {B q a:Nat} {s:ByteArray}
end
set_option maxRecDepth 1000000 in
set_option maxHeartbeats 1000000 in
theorem hnext_kept(T p m N n f:Nat)(G:Nat→Nat→Nat)(D:DataW Value)(l:Nat→Nat)(W:World)(B q a:Nat)(s:ByteArray)(hfit:Fit l n)(h1:1≤f)(hf:f≤15)(H:∀w',Kept (fun j=>j=q) W w'→Hp w' T p m G N D l n f n)(R:Rd W B q s a)(hs:s.size≤100000000):
 Calls Tryz.prog 171 #[.pointer (some ⟨p,0,none⟩),.pointer (some ⟨q,0,none⟩)] W (Got W B q s (.tuple #[.int .i64 (gnext l n s a).1,.int .i64 (gnext l n s a).2.1]) (gnext l n s a).2.2):=by
 have hle:=R.le;have hBW:B≤W.heap.size:=by have:=R.lt;have:=R.base;omega
 have hbase:=R.base;have HR:=hid (rskip_yes R hs 0 (by omega));have hcs:=lk_cases (l:=l) (n:=n) (X:=nb s a (min 15 (8*s.size - a))) (h:=min 15 (8*s.size - a)) hfit
 have HG:Hid (gnext l n s a=if(lk l n (nb s a (min 15 (8*s.size - a))) (min 15 (8*s.size - a))).2.2=0 then((lk l n (nb s a (min 15 (8*s.size - a))) (min 15 (8*s.size - a))).1,0,a+(lk l n (nb s a (min 15 (8*s.size - a))) (min 15 (8*s.size - a))).2.1)
  else(0,(lk l n (nb s a (min 15 (8*s.size - a))) (min 15 (8*s.size - a))).2.2,a)):=hid rfl
 have hX:nb s a (min 15 (8*s.size - a))<big:=nb_big s a _ (by omega);have HL:=hid (fun w H=>hlook_any T p m N n f (nb s a (min 15 (8*s.size - a))) (min 15 (8*s.size - a)) G D l w hfit h1 hf hX (by omega) H);have HPK:=hid (fun w (R:Rd w B q s a)=>rpeek_yes R hs 15 (by decide));have hhl:min 15 (8*s.size - a)≤8*s.size - a:=Nat.min_le_right _ _;obtain⟨X,hXn⟩:∃X,nb s a (min 15 (8*s.size - a))=X:=⟨_,rfl⟩
 rw[hXn] at HL HPK HG hcs;obtain⟨h,hhn⟩:∃h,min 15 (8*s.size - a)=h:=⟨_,rfl⟩
 rw[hhn] at HL HPK HG hcs hhl;have HH:=hid H;clear H R hX hXn hhn;rw[HG.out];rcases hcs with⟨i,i1,i2,i3,_,hk⟩|hk|hk
 · rw[hk] at HL ⊢
   rw[if_pos rfl];have h15:=hfit.1.2 i i1;have h320:=hfit.1.1;dsimp only at HL ⊢;obtain⟨z,hz⟩:∃z,l i=z:=⟨_,rfl⟩
   rw[hz] at HL i3 h15 ⊢;go_enter Tryz.func171,Tryz.ntmps171;go_wp2_with fail;refine HR.out.mono ?_;rintro e w2 ⟨rfl,r2,g2⟩;have R2:=hid r2;have G2:=hid g2;clear r2 g2;go_wp2_with fail;refine(HPK.out _ R2.out).mono ?_;rintro e w3 ⟨rfl,r3,g3⟩;have R3:=hid r3;have G3:=hid (G2.out.trans g3 (fun j hj=> .inl hj));clear r3 g3;go_wp2_with fail;refine(HL.out _ (HH.out _ G3.out)).mono ?_;rintro e w4 ⟨rfl,b4⟩;have R4:=hid (R3.out.same (Kept.of_below b4));have G4:=hid (G3.out.trans (Kept.of_below b4) (fun j hj=>hj.elim));clear b4;go_wp2_with fail;refine(rskip_yes R4.out hs z (by omega)).mono ?_;rintro e w5 ⟨rfl,r5,g5⟩;have R5:=hid r5;have G5:=hid (G4.out.trans g5 (fun j hj=> .inl hj));clear r5 g5;go_wp2_with fail;go_ret2;exact⟨rfl,R5.out,G5.out⟩
 all_goals (
  rw[hk] at HL ⊢;rw[if_neg (by decide)];dsimp only at HL ⊢;go_enter Tryz.func171,Tryz.ntmps171;go_wp2_with fail;refine HR.out.mono ?_;rintro e w2 ⟨rfl,r2,g2⟩;have R2:=hid r2;have G2:=hid g2;clear r2 g2;go_wp2_with fail;refine(HPK.out _ R2.out).mono ?_;rintro e w3 ⟨rfl,r3,g3⟩;have R3:=hid r3;have G3:=hid (G2.out.trans g3 (fun j hj=> .inl hj));clear r3 g3;go_wp2_with fail;refine(HL.out _ (HH.out _ G3.out)).mono ?_;rintro e w4 ⟨rfl,b4⟩;have R4:=hid (R3.out.same (Kept.of_below b4));have G4:=hid (G3.out.trans (Kept.of_below b4) (fun j hj=>hj.elim));clear b4;go_wp2_with fail;go_ret2;exact⟨rfl,R4.out,G4.out⟩)
end Go.Proofs.YtdpabanajgegjaaGreatDoor.H
