import Derived.Test.YthgilhebnlglkaaGreatDoorEMJdA
import Derived.Test.YthgilhebnlglkaaGreatDoorEMPkE
set_option linter.all false
set_option maxHeartbeats 8000000
set_option maxRecDepth 1000000
open Go.Proofs.Tryz
namespace Go.Proofs.YthgilhebnlglkaaGreatDoor.I
open Go Go.RowKit M
theorem zg8(s:ByteArray)(a k:Nat)(hk:k<=15):Go.bits .or .u32 (IntKind.u32.wrap ((wd s a k:Int)*2)) (IntKind.u32.wrap (M.nb s (a+k) 1:Int))=((wd s a (k+1):Nat):Int):=by
 have h1:=zi7 s a k;have h2:2^k<=2^15:=Nat.pow_le_pow_right (by decide) hk;have h4:M.nb s (a+k) 1<2:=M.nb_lt s (a+k) 1;rw[wd];obtain⟨X,hX⟩:∃X,wd s a k=X:=⟨_,rfl⟩
 obtain⟨b,hb⟩:∃b,M.nb s (a+k) 1=b:=⟨_,rfl⟩
 rw[hX] at h1 ⊢;rw[hb] at h4 ⊢;have h5:X<32768:=(by omega);clear h1 h2 hX hb;have e1:IntKind.u32.wrap ((X:Int)*2)=((X*2:Nat):Int):=(by rw[IntKind.wrap_u32'];omega);have e2:IntKind.u32.wrap (b:Int)=(b:Int):=(by rw[IntKind.wrap_u32'];omega);rw[e1,e2,u32_or_nat _ _ (by omega) (by omega)];congr 1;have:=Nat.two_pow_add_eq_or_of_lt (i:=1) (b:=b) (by omega) X;rw[show 2*X+b=2^1*X+b from rfl,this,Nat.mul_comm]
def zeS(l:Nat->Nat)(n:Nat)(s:ByteArray)(a k:Nat):Nat->Bool
 |0=>false
 |j+1=>zeS l n s a k j||decide (Beg l n s a k j)
theorem z4V(l:Nat->Nat)(n:Nat)(s:ByteArray)(a k:Nat):∀j,zeS l n s a k j=true↔∃i,i<j/\Beg l n s a k i
 |0=>⟨λh=>by simp[zeS] at h,λ⟨i,h,_⟩=>by omega⟩
 |j+1=>by
  rw[zeS,Bool.or_eq_true,z4V l n s a k j,decide_eq_true_eq];constructor
  · rintro(⟨i,h1,h2⟩|h)
    · exact⟨i,by omega,h2⟩
    · exact⟨j,by omega,h⟩
  · rintro⟨i,h1,h2⟩
    by_cases q:i=j
    · subst q;exact .inr h2
    · exact .inl ⟨i,by omega,h2⟩
section
variable {w:World} {B g r D L e:Nat} {s:ByteArray} {x:St}
theorem zk0(h:Rin w B g r s D L 0 x)(hs:s.size<=100000):Calls prog 134 #[.pointer (some ⟨g,0,none⟩),.int .i64 1] w (Rst w B g r s D L (bits 1 s D L x) z9n z2g):=z4u h hs 1 (by decide)
theorem zay(h:Rin w B g r s D L 0 x)(hs:s.size<=100000){A:Option Addr}{n c:Nat}{l:Nat->Nat}(hA:Apn w g r A n l)(hl:∀i,l i<=255)(ht:Tbl l n)(hc:n<=c):
 Calls prog 176 #[.pointer (some ⟨g,0,none⟩),.slice A n c] w (Rst w B g r s D L (nxt l n s D L x) z9n z2g):=by
 generalize hR:nxt l n s D L x=R;have hf:=ht.fit;have h320:=hf.1.1;have herc:erc l n=0:=(by unfold erc;unfold Tbl at ht;rw[if_neg (by omega),if_neg (by omega)]);have hout:z32 l n=n:=(by unfold z32;rw[if_pos herc]);have hCd:=C.rcodes_any A n c l w (by unfold maxLen;omega) hl hA.nums;rw[herc,hout] at hCd;obtain⟨HCd,HR,HI,HT⟩:=qh4 hCd hR h ht;clear h hR hCd ht herc hout hA;go_enter func176,ntmps176;go_wp2_with (go_at_call 143;(with_reducible refine HCd.o.mono ?_);rintro e w1 ⟨A1,c1,rfl,hnc,hc4,hcd,hb1,hcr⟩;obtain⟨HC1,HB1,HCr⟩:=qh3 hcd hb1 hcr;clear hcd hb1 hcr);have HI1:=qH (HI.o.below HB1.o);have HK1:=qH (show Kept (λj=>j=g) w w1 from(Kept.of_below HB1.o).none _);have HC:=qH (λ(W:World) (hk:Kept (λj=>j=g) w1 W)=>(show z6V W A1 n (cod l n) l from λhn=>by
  obtain⟨b,o,q,hlt,hcc⟩:=HC1.o hn;obtain⟨b',q',hge,_⟩:=HCr.o hn;rw[q] at q';injection q' with q'
  injection q' with q1 q2 q3
  subst q1;have h1:=HI.o.glt;have h2:=HI.o.rlt;have hb:¬b=g:=λe=>by omega
  exact⟨b,o,q,Nat.lt_of_lt_of_le hlt hk.size,λi hi=>⟨(World.cell?_of_block (a:=⟨b,o+i*2,none⟩) (hk.block b hlt hb)).trans (hcc i hi).1,(World.cell?_of_block (a:=⟨b,o+i*2+1,none⟩) (hk.block b hlt hb)).trans (hcc i hi).2⟩⟩))
 clear HB1 HC1 HCr HI HCd
 go_loopw [7,8] (λu v wr=>(∃k:Nat,v=.int .u8 k/\k<=15/\u=.int .u32 (wd s x.1 k)/\x.1+k<=8*s.size/\Cst l n s x.1 k/\(Rin wr B g r s D L 0 (x.1+k,x.2)/\Kept (λj=>j=g) w1 wr))\/(∃ (k c z:Nat) (y:St),v=.int .u8 k/\k<=16/\u=.int .u32 z/\R=.error c/\c≠0/\(Rin wr B g r s D L c y/\Kept (λj=>j=g) w1 wr))) (λ_ v _=>17 - (intOf v).toNat)
 case atStart=>exact .inl ⟨0,rfl,by omega,rfl,HI1.o.al,Cst.zero,HI1.o,Kept.refl _ _⟩
 case round=>
  clear HI1;rcases hrel with⟨k,rfl,hk,rfl,hal,hcst,hres⟩|⟨k,c2,z,y,rfl,hk,rfl,hRc,hc0,hres⟩
  · obtain⟨hI,hkp⟩:=hres
    obtain⟨cp,c0,c1',c2,c3,c4,c5,cf,hy⟩:=hI.cells;obtain⟨HK,HI,HCst⟩:=qh3 hkp hI hcst;have hwl:=zi7 s x.1 k;have hp15:2^k<=2^15:=Nat.pow_le_pow_right (by decide) hk;generalize hX:wd s x.1 k=X at hwl ⊢;have hX15:X<32768:=(by have:(2:Nat)^15=32768:=rfl;omega);have HX:=qH hX;clear hkp hI hcst c0 c1' c3 c4 c5 cf hy hwl hp15 hX;go_wp2_with fail
    go_loopw [9,10] (λb i w2=> ∃j:Nat,j<=n/\i=.int .i64 j/\b=.bool (zeS l n s x.1 k j)/\(∀i,i<j->Beg l n s x.1 k i->l i≠k)/\Kept NoB wr w2) (λ_ i _=>n - (intOf i).toNat)
    case atStart=>exact⟨0,qZ,rfl,rfl,λi h=>by omega,Kept.refl _ _⟩
    case round=>
     obtain⟨j,hj,rfl,rfl,hno,hkw⟩:=hrel;obtain⟨bb,hbb⟩:∃bb,zeS l n s x.1 k j=bb:=⟨_,rfl⟩
     obtain⟨HNo,HKw⟩:=qh2 hno hkw;have hany:zeS l n s x.1 k (j+1)=(bb||decide (Beg l n s x.1 k j)):=(by rw[zeS,hbb]);have HAny:=qH hany;rw[hbb];have HBb:=qH hbb;clear hno hkw hany hbb c2;by_cases hlt:j<n
     · obtain⟨b,o,rfl,hbs,hcc⟩:=HC.o wr (HK.o.trans HKw.o (λ_ e=>e.elim)) (by omega)
       obtain⟨g1,g2⟩:=hcc j hlt;have hz255:=hl j;have hcs:=z3j hf.1 hf.2 hlt;have hcf:=z4O hf.1 hf.2 hlt;have hBeg:Beg l n s x.1 k j↔(l j≠0/\k<=l j/\cod l n j/2^(l j - k)=X):=(by unfold Beg;rw[HX.o]);have hBk:Beg l n s x.1 k j->l j=k->R=.ok (j,(x.1+k,x.2)):=λh1 h2=>by
        rw[<-HR.o];exact zew (y:=x.2) HT.o hlt hal h1 h2
       obtain⟨z,hz⟩:∃z,l j=z:=⟨_,rfl⟩
       obtain⟨y,hy⟩:∃y,cod l n j=y:=⟨_,rfl⟩
       rw[hz] at g2 hz255 hBeg hBk;rw[hy] at g1 hcs hBeg;have HZ:=qH hz;have hstep:∀ (p:Prop) [Decidable p],(Beg l n s x.1 k j↔p)->(p->z≠k)->(zeS l n s x.1 k (j+1)=(bb||decide p))/\∀i,i<j+1->Beg l n s x.1 k i->l i≠k:=λp _ e1 e2=>by
        refine⟨?_,λi hi hb=> ?_⟩
        · rw[HAny.o];congr 1;exact decide_eq_decide.2 e1
        · by_cases q:i=j
          · subst q;rw[HZ.o];exact e2 (e1.1 hb)
          · exact HNo.o i (by omega) hb
       obtain⟨HStep,HZ15,HBk,HBeg⟩:=qh4 hstep HZ.o hBk hBeg;clear hcc hstep hBk hBeg hz hy hcf HNo HAny HZ;have hkB:=λo:Obj=>HKw.o.trans ((Kept.refl NoB wr).alloc o) (λ_ e=> .inl e)
       have HKB:=qH hkB;clear hkB;by_cases h0:z=0
       · subst h0
         go_wp2_with fail;go_roundw
         case rel=>
          obtain⟨q1,q2⟩:=HStep.o False (by rw[HBeg.o];exact⟨λh=>absurd rfl h.1,λh=>h.elim⟩) (λh=>h.elim);exact⟨j+1,by omega,by go_num,by rw[q1];simp,q2,HKB.o _⟩
         case measure=>simp[intOf];omega
       · have z0:((z:Int)==0)=false:=by rw[qN];omega
         have z0':(z==0)=false:=(by rw[qN];exact h0);by_cases h1:z<k
         · go_wp2_with fail
           go_roundw
           case rel=>
            obtain⟨q1,q2⟩:=HStep.o False (by rw[HBeg.o];exact⟨λh=>by omega,λh=>h.elim⟩) (λh=>h.elim);exact⟨j+1,by omega,by go_num,by rw[q1];simp,q2,HKB.o _⟩
           case measure=>simp[intOf];omega
         · obtain⟨d,hd⟩:∃d,z - k=d:=⟨_,rfl⟩
           have e1:IntKind.u8.wrap ((z:Int) - (k:Int))=(d:Int):=(by rw[IntKind.wrap_u8'];omega);have e2:IntKind.u64.wrap (d:Int)=(d:Int):=(by rw[IntKind.wrap_u64];omega);obtain⟨Y,hY⟩:∃Y,y/2^d=Y:=⟨_,rfl⟩
           have hz15:z<=15:=(by rw[<-HZ15.o];exact hf.1.2 j hlt);have e3:(y:Int) /2^(min d 32)=(Y:Int):=(by rw[show min d 32=d by omega,z1U,hY]);rw[hd,hY] at HBeg;by_cases h2:Y=X
           · have H2:=qH h2
             have z2:((y:Int) /2^d !=(X:Int))=false:=(by rw[z1U,hY,bne_eq_false_iff_eq];omega);clear e3 h2 hY;by_cases h3:z=k
             · have z3:((z:Int)==(k:Int))=true:=by rw[beq_iff_eq];omega
               have H3:=qH h3;clear h3;go_wp2_with fail;go_ret;rw[HBk.o (HBeg.o.2 ⟨h0,by omega,H2.o⟩) H3.o];exact⟨rfl,HI.o.same (HKB.o _),HK1.o.trans (HK.o.trans (HKB.o _) (λ_ e=>e.elim)) (λ_ e=> .inl e)⟩
             · have z3:((z:Int)==(k:Int))=false:=by rw[qN];omega
               have z3':(z==k)=false:=(by rw[qN];exact h3);have H3:=qH h3;clear h3;go_wp2_with fail;go_roundw
               case rel=>
                obtain⟨q1,q2⟩:=HStep.o True (by rw[HBeg.o];exact⟨λ_=>trivial,λ_=>⟨h0,by omega,H2.o⟩⟩) (λ_=>H3.o);exact⟨j+1,by omega,by go_num,by rw[q1];simp,q2,HKB.o _⟩
               case measure=>simp[intOf];omega
           · have z2:((Y:Int) !=(X:Int))=true:=by rw[bne_iff_ne];omega
             have z2a:((y:Int) /2^d !=(X:Int))=true:=(by rw[z1U,hY,bne_iff_ne];omega);have z2':((y:Int) /2^(min d 32) !=(X:Int))=true:=(by rw[e3,bne_iff_ne];omega);have H2:=qH h2;clear e3 h2 hY;go_wp2_with fail;go_roundw
             case rel=>
              obtain⟨q1,q2⟩:=HStep.o False (by rw[HBeg.o];exact⟨λh=>H2.o h.2.2,λh=>h.elim⟩) (λh=>h.elim);exact⟨j+1,by omega,by go_num,by rw[q1];simp,q2,HKB.o _⟩
             case measure=>simp[intOf];omega
     · obtain rfl:j=n:=by omega
       have hI2:=HI.o.same HKw.o;have hkk:Kept (λj=>j=g) w1 wr:=HK.o.trans HKw.o (λ_ e=>e.elim);cases bb with
       |false=>
        have e:R=.error 163:=by
         rw[<-HR.o];refine zc1 (y:=x.2) HT.o hal HCst.o λi hi hb=> ?_
         have:=(z4V l j s x.1 k j).2 ⟨i,hi,hb⟩;rw[HBb.o] at this;cases this
        have HF:=qH (z1b hI2 163 163 rfl);have HKk:=qH hkk;clear hI2 hkk;go_wp2_with (go_at_call 139;(with_reducible refine HF.o.mono ?_);rintro e w3 ⟨rfl,o3,k3⟩;obtain⟨O3,K3⟩:=qh2 o3 k3;clear o3 k3);go_ret;rw[e];exact⟨rfl,by decide,_,O3.o,HK1.o.trans (HKk.o.trans K3.o (λ_ e=> .inl e)) (λ_ e=> .inl e)⟩
       |true=>
        obtain⟨i0,hi0,hb0⟩:=(z4V l j s x.1 k j).1 HBb.o;have hne:=HNo.o i0 hi0 hb0;have hle:k<l i0:=(by have:=hb0.2.1;omega);have h15:=hf.1.2 i0 hi0;have hcn:Cst l j s x.1 (k+1):=HCst.o.next hf (λi hi hb=>HNo.o i hi hb)
        have hB1:=zk0 hI2 hs;by_cases hend:x.1+k+1<=8*s.size
        · rw[show bits 1 s D L (x.1+k,x.2)=.ok (M.nb s (x.1+k) 1,(x.1+k+1,x.2)) from if_pos hend] at hB1
          obtain⟨bt,hbt⟩:∃bt,M.nb s (x.1+k) 1=bt:=⟨_,rfl⟩
          have hwm:=zg8 s x.1 k hk;rw[HX.o,hbt,IntKind.wrap_u32' (bt:Int),show IntKind.u32.wrap ((X:Int)*2)=(X:Int)*2 by rw[IntKind.wrap_u32'];omega] at hwm;rw[hbt] at hB1;have HB1:=qH (show Calls prog 134 #[.pointer (some ⟨g,0,none⟩),.int .i64 1] wr λe w'=>e=.returned (.int .i64 (bt:Int))/\Rin w' B g r s D L 0 (x.1+k+1,x.2)/\Kept (λj=>j=g) wr w' from hB1);obtain⟨HKk,HCn⟩:=qh2 hkk hcn;have e8:IntKind.u8.wrap ((k:Int)+1)=(k:Int)+1:=(by rw[IntKind.wrap_u8'];omega);clear hI2 hkk hB1 hcn hb0 hbt;go_wp2_with (go_at_call 134;(with_reducible refine HB1.o.mono ?_);rintro e w3 ⟨rfl,o3,k3⟩;obtain⟨O3,K3⟩:=qh2 o3 k3;clear o3 k3);go_roundw
          case rel=>exact .inl ⟨k+1,by go_num,by omega,rfl,by omega,HCn.o,by
           rw[show x.1+(k+1)=x.1+k+1 by omega];exact⟨O3.o,HKk.o.trans K3.o (λ_ e=> .inl e)⟩⟩
          case measure=>simp[intOf];omega
        · rw[show bits 1 s D L (x.1+k,x.2)=.error 6 from if_neg hend] at hB1
          have e:R=.error 6:=by
           rw[<-HR.o];exact zex (y:=x.2) HT.o (by omega) hcn hi0 hb0
          have HB1:=qH (show Calls prog 134 #[.pointer (some ⟨g,0,none⟩),.int .i64 1] wr λe w'=>e=.returned (.int .i64 0)/\6≠0/\∃y,Rin w' B g r s D L 6 y/\Kept (λj=>j=g) wr w' from hB1);have HKk:=qH hkk;have e8:IntKind.u8.wrap ((k:Int)+1)=(k:Int)+1:=(by rw[IntKind.wrap_u8'];omega);have eo:Go.bits .or .u32 ((X:Int)*2) 0=((X*2:Nat):Int):=by
           have:=u32_or_nat (X*2) 0 (by omega) (by decide);rw[Nat.or_zero,show((X*2:Nat):Int)=(X:Int)*2 by omega] at this;rw[show((X*2:Nat):Int)=(X:Int)*2 by omega];exact this
          clear hI2 hkk hB1 hcn hb0;go_wp2_with (go_at_call 134;(with_reducible refine HB1.o.mono ?_);rintro e w3 ⟨rfl,o2,y3,o3,k3⟩;obtain⟨O3,K3⟩:=qh2 o3 k3;clear o3 k3);go_roundw
          case rel=>exact .inr ⟨k+1,6,X*2,y3,by go_num,by omega,congrArg _ (by omega),e,by decide,O3.o,HKk.o.trans K3.o (λ_ e=> .inl e)⟩
          case measure=>simp[intOf];omega
  · obtain⟨hI,hkp⟩:=hres
    obtain⟨cp,c0,c1',c2',c3,c4,c5,cf,hy⟩:=hI.cells;have d0:((c2:Int)==0)=false:=(by rw[qN];omega);obtain⟨HK,HI⟩:=qh2 hkp hI;clear hkp hI c0 c1' c3 c4 c5 cf hy;go_wp2_with fail;go_ret;rw[hRc];exact⟨rfl,hc0,y,HI.o,HK1.o.trans HK.o (λ_ e=> .inl e)⟩
theorem zgB(h:Rin w B g r s D L 0 x)(hs:s.size<=100000){A:Option Addr}{n c:Nat}{l:Nat->Nat}(hA:Apn w g r A n l)(hl:∀i,l i<=255)(ht:Tbl l n)(hc:n<=c):
 Calls prog 176 #[.pointer (some ⟨g,0,none⟩),.slice A n c] w (zcy w B g r s D L (nxt l n s D L x) z9n z2g):=(zay h hs hA hl ht hc).mono λ_ _ o=>o.rout
