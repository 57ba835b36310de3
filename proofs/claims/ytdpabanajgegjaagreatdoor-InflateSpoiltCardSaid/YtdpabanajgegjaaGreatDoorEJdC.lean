import Derived.Test.YtdpabanajgegjaaGreatDoorEMJdA
import Derived.Test.YtdpabanajgegjaaGreatDoorEMPkE
namespace Go.Proofs.YtdpabanajgegjaaGreatDoor.I
open Go.Lib (hid)
set_option maxRecDepth 1000000
open Go Go.RowKit M
set_option linter.unusedVariables false
set_option linter.unusedSimpArgs false
theorem wd_more(s:ByteArray)(a k:Nat)(hk:k≤15):Go.bits .or .u32 (IntKind.u32.wrap ((wd s a k:Int)*2)) (IntKind.u32.wrap (M.nb s (a+k) 1:Int))=((wd s a (k+1):Nat):Int):=by
 have h1:=wd_lt s a k;have h2:2^k≤2^15:=Nat.pow_le_pow_right (by decide) hk;have h3:(2:Nat)^15=32768:=rfl;have h4:M.nb s (a+k) 1<2:=M.nb_lt s (a+k) 1;rw[wd];obtain⟨X,hX⟩:∃X,wd s a k=X:=⟨_,rfl⟩
 obtain⟨b,hb⟩:∃b,M.nb s (a+k) 1=b:=⟨_,rfl⟩
 rw[hX] at h1 ⊢;rw[hb] at h4 ⊢;have h5:X<32768:=by omega
 clear h1 h2 h3 hX hb;have e1:IntKind.u32.wrap ((X:Int)*2)=((X*2:Nat):Int):=by rw[IntKind.wrap_u32'];omega
 have e2:IntKind.u32.wrap (b:Int)=(b:Int):=by rw[IntKind.wrap_u32'];omega
 rw[e1,e2,u32_or_nat _ _ (by omega) (by omega)];congr 1;have:=Nat.two_pow_add_eq_or_of_lt (i:=1) (b:=b) (by omega) X;rw[show 2*X+b=2^1*X+b from rfl,this,Nat.mul_comm]
def anyB(l:Nat→Nat)(n:Nat)(s:ByteArray)(a k:Nat):Nat→Bool
 |0=>false
 |j+1=>anyB l n s a k j||decide (Beg l n s a k j)
theorem anyB_iff(l:Nat→Nat)(n:Nat)(s:ByteArray)(a k:Nat):∀j,anyB l n s a k j=true↔∃i,i<j∧Beg l n s a k i
 |0=>⟨fun h=>by simp[anyB] at h,fun⟨i,h,_⟩=>by omega⟩
 |j+1=>by
  rw[anyB,Bool.or_eq_true,anyB_iff l n s a k j,decide_eq_true_eq];constructor
  · rintro(⟨i,h1,h2⟩|h)
    · exact⟨i,by omega,h2⟩
    · exact⟨j,by omega,h⟩
  · rintro⟨i,h1,h2⟩
    by_cases q:i=j
    · subst q;exact .inr h2
    · exact .inl ⟨i,by omega,h2⟩
section
variable {w:World} {B g r D L e:Nat} {s:ByteArray} {x:St}
theorem rbit1(h:Rin w B g r s D L 0 x)(hs:s.size≤100000):Calls Tryz.prog 71 #[.pointer (some ⟨g,0,none⟩),.int .i64 1] w (Rst w B g r s D L (bits 1 s D L x) Rnum Rzero):=rbits_s h hs 1 (by decide)
set_option maxHeartbeats 4000000 in
theorem rcode_s(h:Rin w B g r s D L 0 x)(hs:s.size≤100000){A:Option Addr}{n c:Nat}{l:Nat→Nat}(hA:Apn w g r A n l)(hl:∀i,l i≤255)(ht:Tbl l n)(hc:n≤c):
 Calls Tryz.prog 109 #[.pointer (some ⟨g,0,none⟩),.slice A n c] w (Rst w B g r s D L (nxt l n s D L x) Rnum Rzero):=by
 obtain⟨R,hR⟩:∃R,nxt l n s D L x=R:=⟨_,rfl⟩
 rw[hR];have hf:=ht.fit;have h320:=hf.1.1;have herc:erc l n=0:=by unfold erc;unfold Tbl at ht;rw[if_neg (by omega),if_neg (by omega)]
 have hout:outn l n=n:=by unfold outn;rw[if_pos herc]
 have hCd:=C.rcodes_any A n c l w (by unfold maxLen;omega) hl hA.nums;rw[herc,hout] at hCd;have HCd:=hid hCd;have HR:=hid hR;have HI:=hid h;have HT:=hid ht;clear h hR hCd ht herc hout hA;go_enter Tryz.func109,Tryz.ntmps109;go_wp2_with (go_at_call 61;(with_reducible refine HCd.out.mono ?_);rintro e w1 ⟨A1,c1,rfl,hnc,hc4,hcd,hb1,hcr⟩;have HC1:=hid hcd;have HB1:=hid hb1;have HCr:=hid hcr;clear hcd hb1 hcr);have HI1:=hid (HI.out.below HB1.out);have HK1:=hid (show Kept (fun j=>j=g) w w1 from(Kept.of_below HB1.out).none _)
 have HC:=hid (fun(W:World) (hk:Kept (fun j=>j=g) w1 W)=>(show Cods W A1 n (cod l n) l from fun hn=>by
  obtain⟨b,o,q,hlt,hcc⟩:=HC1.out hn;obtain⟨b',q',hge,_⟩:=HCr.out hn;rw[q] at q';injection q' with q'
  injection q' with q1 q2 q3
  subst q1;have h1:=HI.out.glt;have h2:=HI.out.rlt;have hb:¬b=g:=fun e=>by omega
  exact⟨b,o,q,Nat.lt_of_lt_of_le hlt hk.size,fun i hi=>⟨(World.cell?_of_block (a:=⟨b,o+i*2,none⟩) (hk.block b hlt hb)).trans (hcc i hi).1,(World.cell?_of_block (a:=⟨b,o+i*2+1,none⟩) (hk.block b hlt hb)).trans (hcc i hi).2⟩⟩))
 clear HB1 HC1 HCr HI HCd
 go_loopw [7,8] (fun u v wr=>(∃k:Nat,v=.int .u8 k∧k≤15∧u=.int .u32 (wd s x.1 k)∧x.1+k≤8*s.size∧Cst l n s x.1 k∧(Rin wr B g r s D L 0 (x.1+k,x.2)∧Kept (fun j=>j=g) w1 wr))∨(∃ (k c z:Nat) (y:St),v=.int .u8 k∧k≤16∧u=.int .u32 z∧R=.error c∧c≠0∧(Rin wr B g r s D L c y∧Kept (fun j=>j=g) w1 wr))) (fun _ v _=>17 - (intOf v).toNat)
 case atStart=>exact .inl ⟨0,rfl,by omega,rfl,HI1.out.al,Cst.zero,HI1.out,Kept.refl _ _⟩
 case round=>
  clear HI1;rcases hrel with⟨k,rfl,hk,rfl,hal,hcst,hres⟩|⟨k,c2,z,y,rfl,hk,rfl,hRc,hc0,hres⟩
  · obtain⟨hI,hkp⟩:=hres
    obtain⟨cp,c0,c1',c2,c3,c4,c5,cf,hy⟩:=hI.cells;have HK:=hid hkp;have HI:=hid hI;have HCst:=hid hcst;have hwl:=wd_lt s x.1 k;have hp15:2^k≤2^15:=Nat.pow_le_pow_right (by decide) hk;obtain⟨X,hX⟩:∃X,wd s x.1 k=X:=⟨_,rfl⟩
    rw[hX] at hwl ⊢;have hX15:X<32768:=by have:(2:Nat)^15=32768:=rfl;omega
    have HX:=hid hX;clear hkp hI hcst c0 c1' c3 c4 c5 cf hy hwl hp15 hX;go_wp2_with fail
    go_loopw [9,10] (fun b i w2=> ∃j:Nat,j≤n∧i=.int .i64 j∧b=.bool (anyB l n s x.1 k j)∧(∀i,i<j→Beg l n s x.1 k i→l i≠k)∧Kept NoB wr w2) (fun _ i _=>n - (intOf i).toNat)
    case atStart=>exact⟨0,Nat.zero_le _,rfl,rfl,fun i h=>by omega,Kept.refl _ _⟩
    case round=>
     obtain⟨j,hj,rfl,rfl,hno,hkw⟩:=hrel;obtain⟨bb,hbb⟩:∃bb,anyB l n s x.1 k j=bb:=⟨_,rfl⟩
     have HNo:=hid hno;have HKw:=hid hkw;have hany:anyB l n s x.1 k (j+1)=(bb||decide (Beg l n s x.1 k j)):=by rw[anyB,hbb]
     have HAny:=hid hany;rw[hbb];have HBb:=hid hbb;clear hno hkw hany hbb c2;by_cases hlt:j<n
     · obtain⟨b,o,rfl,hbs,hcc⟩:=HC.out wr (HK.out.trans HKw.out (fun _ e=>e.elim)) (by omega)
       obtain⟨g1,g2⟩:=hcc j hlt;have hz255:=hl j;have hcs:=cod_small hf.1 hf.2 hlt;have hcf:=cod_fit hf.1 hf.2 hlt;have hBeg:Beg l n s x.1 k j↔(l j≠0∧k≤l j∧cod l n j/2^(l j - k)=X):=by unfold Beg;rw[HX.out]
       have hBk:Beg l n s x.1 k j→l j=k→R=.ok (j,(x.1+k,x.2)):=fun h1 h2=>by
        rw[←HR.out];exact code_hit (y:=x.2) HT.out hlt hal h1 h2
       obtain⟨z,hz⟩:∃z,l j=z:=⟨_,rfl⟩
       obtain⟨y,hy⟩:∃y,cod l n j=y:=⟨_,rfl⟩
       rw[hz] at g2 hz255 hBeg hBk;rw[hy] at g1 hcs hBeg;have HZ:=hid hz
       have hstep:∀ (p:Prop) [Decidable p],(Beg l n s x.1 k j↔p)→(p→z≠k)→(anyB l n s x.1 k (j+1)=(bb||decide p))∧∀i,i<j+1→Beg l n s x.1 k i→l i≠k:=fun p _ e1 e2=>by
        refine⟨?_,fun i hi hb=> ?_⟩
        · rw[HAny.out];congr 1;exact decide_eq_decide.2 e1
        · by_cases q:i=j
          · subst q;rw[HZ.out];exact e2 (e1.1 hb)
          · exact HNo.out i (by omega) hb
       have HStep:=hid hstep;have HZ15:=hid HZ.out;have HBk:=hid hBk;have HBeg:=hid hBeg;clear hcc hstep hBk hBeg hz hy hcf HNo HAny HZ;have hkB:=fun o:Obj=>HKw.out.trans ((Kept.refl NoB wr).alloc o) (fun _ e=> .inl e)
       have HKB:=hid hkB;clear hkB;by_cases h0:z=0
       · subst h0
         go_wp2_with fail;go_roundw
         case rel=>
          obtain⟨q1,q2⟩:=HStep.out False (by rw[HBeg.out];exact⟨fun h=>absurd rfl h.1,fun h=>h.elim⟩) (fun h=>h.elim);exact⟨j+1,by omega,by go_num,by rw[q1];simp,q2,HKB.out _⟩
         case measure=>simp[intOf];omega
       · have z0:((z:Int)==0)=false:=by rw[beq_eq_false_iff_ne];omega
         have z0':(z==0)=false:=by rw[beq_eq_false_iff_ne];exact h0
         by_cases h1:z<k
         · have z1:decide ((z:Int)<(k:Int))=true:=decide_eq_true (by omega)
           have z1':decide (z<k)=true:=decide_eq_true h1;go_wp2_with fail;go_roundw
           case rel=>
            obtain⟨q1,q2⟩:=HStep.out False (by rw[HBeg.out];exact⟨fun h=>by omega,fun h=>h.elim⟩) (fun h=>h.elim);exact⟨j+1,by omega,by go_num,by rw[q1];simp,q2,HKB.out _⟩
           case measure=>simp[intOf];omega
         · have z1:decide ((z:Int)<(k:Int))=false:=decide_eq_false (by omega)
           have z1':decide (z<k)=false:=decide_eq_false h1;obtain⟨d,hd⟩:∃d,z - k=d:=⟨_,rfl⟩
           have e1:IntKind.u8.wrap ((z:Int) - (k:Int))=(d:Int):=by rw[IntKind.wrap_u8'];omega
           have e2:IntKind.u64.wrap (d:Int)=(d:Int):=by rw[IntKind.wrap_u64];omega
           obtain⟨Y,hY⟩:∃Y,y/2^d=Y:=⟨_,rfl⟩
           have hz15:z≤15:=by rw[←HZ15.out];exact hf.1.2 j hlt
           have e3:(y:Int) /2^(min d 32)=(Y:Int):=by rw[show min d 32=d by omega,cast_div2,hY]
           rw[hd,hY] at HBeg;by_cases h2:Y=X
           · have H2:=hid h2
             have z2:((y:Int) /2^d !=(X:Int))=false:=by rw[cast_div2,hY,bne_eq_false_iff_eq];omega
             have z2':((y:Int) /2^(min d 32) !=(X:Int))=false:=by rw[e3,bne_eq_false_iff_eq];omega
             clear e3 h2 hY;by_cases h3:z=k
             · have z3:((z:Int)==(k:Int))=true:=by rw[beq_iff_eq];omega
               have z3':(z==k)=true:=by rw[beq_iff_eq];exact h3
               have z3a:decide (z=k)=true:=decide_eq_true h3;have z3b:decide ((z:Int)=(k:Int))=true:=decide_eq_true (by omega);have H3:=hid h3;clear h3;go_wp2_with fail;go_ret;rw[HBk.out (HBeg.out.2 ⟨h0,by omega,H2.out⟩) H3.out];exact⟨rfl,HI.out.same (HKB.out _),HK1.out.trans (HK.out.trans (HKB.out _) (fun _ e=>e.elim)) (fun _ e=> .inl e)⟩
             · have z3:((z:Int)==(k:Int))=false:=by rw[beq_eq_false_iff_ne];omega
               have z3':(z==k)=false:=by rw[beq_eq_false_iff_ne];exact h3
               have z3a:decide (z=k)=false:=decide_eq_false h3;have z3b:decide ((z:Int)=(k:Int))=false:=decide_eq_false (by omega);have H3:=hid h3;clear h3;go_wp2_with fail;go_roundw
               case rel=>
                obtain⟨q1,q2⟩:=HStep.out True (by rw[HBeg.out];exact⟨fun _=>trivial,fun _=>⟨h0,by omega,H2.out⟩⟩) (fun _=>H3.out);exact⟨j+1,by omega,by go_num,by rw[q1];simp,q2,HKB.out _⟩
               case measure=>simp[intOf];omega
           · have z2:((Y:Int) !=(X:Int))=true:=by rw[bne_iff_ne];omega
             have z2a:((y:Int) /2^d !=(X:Int))=true:=by rw[cast_div2,hY,bne_iff_ne];omega
             have z2':((y:Int) /2^(min d 32) !=(X:Int))=true:=by rw[e3,bne_iff_ne];omega
             have H2:=hid h2;clear e3 h2 hY;go_wp2_with fail;go_roundw
             case rel=>
              obtain⟨q1,q2⟩:=HStep.out False (by rw[HBeg.out];exact⟨fun h=>H2.out h.2.2,fun h=>h.elim⟩) (fun h=>h.elim);exact⟨j+1,by omega,by go_num,by rw[q1];simp,q2,HKB.out _⟩
             case measure=>simp[intOf];omega
     · obtain rfl:j=n:=by omega
       have hI2:=HI.out.same HKw.out;have hkk:Kept (fun j=>j=g) w1 wr:=HK.out.trans HKw.out (fun _ e=>e.elim);cases bb with
       |false=>
        have e:R=.error 163:=by
         rw[←HR.out];refine code_none (y:=x.2) HT.out hal HCst.out fun i hi hb=> ?_
         have:=(anyB_iff l j s x.1 k j).2 ⟨i,hi,hb⟩;rw[HBb.out] at this;cases this
        have HF:=hid (rfail_s hI2 163 163 rfl);have HKk:=hid hkk;clear hI2 hkk;go_wp2_with (go_at_call 76;(with_reducible refine HF.out.mono ?_);rintro e w3 ⟨rfl,o3,k3⟩;have O3:=hid o3;have K3:=hid k3;clear o3 k3);go_ret;rw[e];exact⟨rfl,by decide,_,O3.out,HK1.out.trans (HKk.out.trans K3.out (fun _ e=> .inl e)) (fun _ e=> .inl e)⟩
       |true=>
        obtain⟨i0,hi0,hb0⟩:=(anyB_iff l j s x.1 k j).1 HBb.out;have hne:=HNo.out i0 hi0 hb0;have hle:k<l i0:=by have:=hb0.2.1;omega
        have h15:=hf.1.2 i0 hi0;have hcn:Cst l j s x.1 (k+1):=HCst.out.next hf (fun i hi hb=>HNo.out i hi hb)
        have hB1:=rbit1 hI2 hs;by_cases hend:x.1+k+1≤8*s.size
        · rw[show bits 1 s D L (x.1+k,x.2)=.ok (M.nb s (x.1+k) 1,(x.1+k+1,x.2)) from if_pos hend] at hB1
          obtain⟨bt,hbt⟩:∃bt,M.nb s (x.1+k) 1=bt:=⟨_,rfl⟩
          have hwm:=wd_more s x.1 k hk;rw[HX.out,hbt,IntKind.wrap_u32' (bt:Int),show IntKind.u32.wrap ((X:Int)*2)=(X:Int)*2 by rw[IntKind.wrap_u32'];omega] at hwm;rw[hbt] at hB1;have HB1:=hid (show Calls Tryz.prog 71 #[.pointer (some ⟨g,0,none⟩),.int .i64 1] wr fun e w'=>e=.returned (.int .i64 (bt:Int))∧Rin w' B g r s D L 0 (x.1+k+1,x.2)∧Kept (fun j=>j=g) wr w' from hB1);have HKk:=hid hkk;have HCn:=hid hcn;have e8:IntKind.u8.wrap ((k:Int)+1)=(k:Int)+1:=by rw[IntKind.wrap_u8'];omega
          have ex:(X:Int)*2^1=(X:Int)*2:=by omega
          clear hI2 hkk hB1 hcn hb0 hbt;go_wp2_with (go_at_call 71;(with_reducible refine HB1.out.mono ?_);rintro e w3 ⟨rfl,o3,k3⟩;have O3:=hid o3;have K3:=hid k3;clear o3 k3);go_roundw
          case rel=>exact .inl ⟨k+1,by go_num,by omega,rfl,by omega,HCn.out,by
           rw[show x.1+(k+1)=x.1+k+1 by omega];exact⟨O3.out,HKk.out.trans K3.out (fun _ e=> .inl e)⟩⟩
          case measure=>simp[intOf];omega
        · rw[show bits 1 s D L (x.1+k,x.2)=.error 6 from if_neg hend] at hB1
          have e:R=.error 6:=by
           rw[←HR.out];exact code_end (y:=x.2) HT.out (by omega) hcn hi0 hb0
          have HB1:=hid (show Calls Tryz.prog 71 #[.pointer (some ⟨g,0,none⟩),.int .i64 1] wr fun e w'=>e=.returned (.int .i64 0)∧6≠0∧∃y,Rin w' B g r s D L 6 y∧Kept (fun j=>j=g) wr w' from hB1);have HKk:=hid hkk;have e8:IntKind.u8.wrap ((k:Int)+1)=(k:Int)+1:=by rw[IntKind.wrap_u8'];omega
          have eo:Go.bits .or .u32 ((X:Int)*2) 0=((X*2:Nat):Int):=by
           have:=u32_or_nat (X*2) 0 (by omega) (by decide);rw[Nat.or_zero,show((X*2:Nat):Int)=(X:Int)*2 by omega] at this;rw[show((X*2:Nat):Int)=(X:Int)*2 by omega];exact this
          clear hI2 hkk hB1 hcn hb0;go_wp2_with (go_at_call 71;(with_reducible refine HB1.out.mono ?_);rintro e w3 ⟨rfl,o2,y3,o3,k3⟩;have O3:=hid o3;have K3:=hid k3;clear o3 k3);go_roundw
          case rel=>exact .inr ⟨k+1,6,X*2,y3,by go_num,by omega,congrArg _ (by omega),e,by decide,O3.out,HKk.out.trans K3.out (fun _ e=> .inl e)⟩
          case measure=>simp[intOf];omega
  · obtain⟨hI,hkp⟩:=hres
    obtain⟨cp,c0,c1',c2',c3,c4,c5,cf,hy⟩:=hI.cells;have d0:((c2:Int)==0)=false:=by rw[beq_eq_false_iff_ne];omega
    have HK:=hid hkp;have HI:=hid hI;clear hkp hI c0 c1' c3 c4 c5 cf hy;go_wp2_with fail;go_ret;rw[hRc];exact⟨rfl,hc0,y,HI.out,HK1.out.trans HK.out (fun _ e=> .inl e)⟩
theorem rcode_c(h:Rin w B g r s D L 0 x)(hs:s.size≤100000){A:Option Addr}{n c:Nat}{l:Nat→Nat}(hA:Apn w g r A n l)(hl:∀i,l i≤255)(ht:Tbl l n)(hc:n≤c):
 Calls Tryz.prog 109 #[.pointer (some ⟨g,0,none⟩),.slice A n c] w (Rout w B g r s D L (nxt l n s D L x) Rnum Rzero):=(rcode_s h hs hA hl ht hc).mono fun _ _ o=>o.rout
end
end Go.Proofs.YtdpabanajgegjaaGreatDoor.I
