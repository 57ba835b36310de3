import Derived.Test.YtacelhaidcmbcaaGreatDoorTSoA
import Derived.Test.YtacelhaidcmbcaaGreatDoorTMMathT
import Derived.BigQuiet
set_option maxHeartbeats 8000000
set_option maxRecDepth 1000000
namespace Go.Proofs.YtacelhaidcmbcaaGreatDoor
open Go.Lib (hid)
open Go.RowKit M
set_option linter.unusedVariables false
def One(b:Nat):Nat→Prop:=fun j=>j=b
theorem Lfs.swap{w:World}{b n i j:Nat}{e:Nat→Nat×Nat}(h:Lfs w b n e):
 Lfs ((((((w.setCell ⟨b,i*3,none⟩ (.int .u64 (e j).1)).setCell ⟨b,i*3+1,none⟩ (.int .i64 (e j).2)).setCell ⟨b,i*3+2,none⟩ (.pointer none)).setCell ⟨b,j*3,none⟩ (.int .u64 (e i).1)).setCell ⟨b,j*3+1,none⟩ (.int .i64 (e i).2)).setCell ⟨b,j*3+2,none⟩ (.pointer none)) b n (fun t=>if t=j then e i else if t=i then e j else e t):=
 ((h.set i (e j).1 (e j).2).set j (e i).1 (e i).2).congr fun t _=>rfl
theorem z5A{e:Nat→Nat×Nat}{i j:Nat}(h:i≠j)(t:Nat):(if t=j then e i else if t=i then e j else e t)=swp e i j t:=by
 unfold swp;by_cases h1:t=j
 · rw[if_pos h1,if_neg (by omega),if_pos h1]
 · rw[if_neg h1]
   by_cases h2:t=i
   · rw[if_pos h2,if_pos h2]
   · rw[if_neg h2,if_neg h2,if_neg h1]
theorem zdP{b:Nat}{w w':World}(h:Kept (One b) w w')(o1 o2 o3 o4 o5 o6:Nat)(v1 v2 v3 v4 v5 v6:Value):
 Kept (One b) w ((((((w'.setCell ⟨b,o1,none⟩ v1).setCell ⟨b,o2,none⟩ v2).setCell ⟨b,o3,none⟩ v3).setCell ⟨b,o4,none⟩ v4).setCell ⟨b,o5,none⟩ v5).setCell ⟨b,o6,none⟩ v6):=by
 have h1:=h.setCell ⟨b,o1,none⟩ (.inl rfl) v1;have h2:=h1.setCell ⟨b,o2,none⟩ (.inl rfl) v2;have h3:=h2.setCell ⟨b,o3,none⟩ (.inl rfl) v3;have h4:=h3.setCell ⟨b,o4,none⟩ (.inl rfl) v4;have h5:=h4.setCell ⟨b,o5,none⟩ (.inl rfl) v5;exact h5.setCell ⟨b,o6,none⟩ (.inl rfl) v6
theorem z6x(b n c a d k:Nat)(cmpf:Value)(e:Nat→Nat×Nat)(W:World)(hn:n≤400)(hd:a+k≤d)(hdn:d+k≤n)(H:Lfs W b n e):
 Calls Tryz.prog 190 #[.slice (some ⟨b,0,none⟩) n c,.int .i64 a,.int .i64 d,.int .i64 k,cmpf] W fun x w'=>x=.returned (.tuple #[])∧Lfs w' b n (swr e a d k)∧Kept (One b) W w':=by
 have HW:=hid H;clear H;go_enter Tryz.func190,Tryz.ntmps190;go_wp2_with fail
 go_loopw [10] (fun i wr=> ∃t:Nat,t≤k∧i=.int .i64 t∧Lfs wr b n (swr e a d t)∧Kept (One b) W wr) (fun i _=>k - (intOf i).toNat)
 case atStart=>exact⟨0,qZ,rfl,HW.out.congr (fun i _=>(zcP e a d i).symm),Kept.refl _ _⟩
 case round=>
  obtain⟨t,ht,rfl,hl,hk⟩:=hrel;by_cases hlt:t<k
  · obtain⟨x,hx⟩:∃x,a+t=x:=⟨_,rfl⟩
    obtain⟨y,hy⟩:∃y,d+t=y:=⟨_,rfl⟩
    obtain⟨p1,p2,p3⟩:=hl.cells (show x<n by omega);obtain⟨q1,q2,q3⟩:=hl.cells (show y<n by omega);have fx:=hl.frozen (x*3);have fx1:=hl.frozen (x*3+1);have fx2:=hl.frozen (x*3+2);have fy:=hl.frozen (y*3);have fy1:=hl.frozen (y*3+1);have fy2:=hl.frozen (y*3+2);have e1:IntKind.i64.wrap ((a:Int)+(t:Int))=(x:Int):=by rw[IntWalk.i64_in _ (by omega)];omega
    have e2:IntKind.i64.wrap ((d:Int)+(t:Int))=(y:Int):=by rw[IntWalk.i64_in _ (by omega)];omega
    have hs:=(hl.swap (i:=x) (j:=y)).congr (e':=swr e a d (t+1)) (fun i _=>(z5A (by omega) i).trans (by rw[←hx,←hy];exact zcO e (by omega) i));obtain⟨u1,hu1⟩:∃u,(swr e a d t x).1=u:=⟨_,rfl⟩
    obtain⟨u2,hu2⟩:∃u,(swr e a d t x).2=u:=⟨_,rfl⟩
    obtain⟨v1,hv1⟩:∃u,(swr e a d t y).1=u:=⟨_,rfl⟩
    obtain⟨v2,hv2⟩:∃u,(swr e a d t y).2=u:=⟨_,rfl⟩
    rw[hu1] at p1 hs;rw[hu2] at p2 hs;rw[hv1] at q1 hs;rw[hv2] at q2 hs;have HX:=hid hx;have HY:=hid hy;have HS:=hid hs;have HK:=hid hk;have hxn:x<n:=by omega
    have hyn:y<n:=by omega
    have hxy:x<y:=by omega
    clear hx hy hs hk hl hu1 hu2 hv1 hv2;go_wp2_with fail
    go_region
    go_wp2_with fail;go_roundw
    case rel=>exact⟨t+1,by omega,by go_num,HS.out.drew,(zdP HK.out _ _ _ _ _ _ _ _ _ _ _ _).drew⟩
    case measure=>simp[intOf];omega
  · obtain rfl:t=k:=by omega
    have HL:=hid hl;have HK:=hid hk;clear hl hk;go_wp2_with fail;go_end0;exact⟨rfl,HL.out,HK.out⟩
theorem zae(b n c a m d:Nat)(cmpf:Value)(e:Nat→Nat×Nat)(W:World)(hn:n≤400)(h1:a<m)(h2:m<d)(h3:d≤n)(H:Lfs W b n e):
 Calls Tryz.prog 189 #[.slice (some ⟨b,0,none⟩) n c,.int .i64 a,.int .i64 m,.int .i64 d,cmpf] W fun x w'=>x=.returned (.tuple #[])∧Lfs w' b n (rot e a m d)∧Kept (One b) W w':=by
 have HW:=hid H;have HN:=hid hn;clear H;have s1:(m:Int) - (a:Int)=((m - a:Nat):Int):=by omega
 have s2:(d:Int) - (m:Int)=((d - m:Nat):Int):=by omega
 obtain⟨i0,hi0⟩:∃x,m - a=x:=⟨_,rfl⟩
 obtain⟨j0,hj0⟩:∃x,d - m=x:=⟨_,rfl⟩
 rw[hi0] at s1;rw[hj0] at s2;have g1:i0≤m:=by omega
 have g2:m+j0≤n:=by omega
 have g3:0<i0:=by omega
 have g4:0<j0:=by omega
 have HE:Hid (∀t,rot e (m - i0) m (m+j0) t=rot e a m d t):=hid (by
  intro t;rw[show m - i0=a by omega,show m+j0=d by omega])
 clear hi0 hj0;go_enter Tryz.func189,Tryz.ntmps189;go_wp2_with fail;clear s1 s2
 go_loopw [10,11] (fun x y wr=> ∃ (i j:Nat) (e1:Nat→Nat×Nat),x=.int .i64 i∧y=.int .i64 j∧0<i∧0<j∧i≤m∧m+j≤n∧Lfs wr b n e1∧Hid (∀t,rot e1 (m - i) m (m+j) t=rot e a m d t)∧Kept (One b) W wr) (fun x y _=>(intOf x).toNat+(intOf y).toNat)
 case atStart=>exact⟨i0,j0,e,rfl,rfl,g3,g4,g1,g2,HW.out,HE,Kept.refl _ _⟩
 case round=>
  obtain⟨i,j,e1,rfl,rfl,p1,p2,p3,p4,hl,HR,hk⟩:=hrel;have HL:=hid hl;have HK:=hid hk;clear hl hk g1 g2 g3 g4 h1 h2 h3;have e1':IntKind.i64.wrap ((m:Int) - (i:Int))=((m - i:Nat):Int):=by rw[IntWalk.i64_in _ (by omega)];omega
  have e1'':(m:Int) - (i:Int)=((m - i:Nat):Int):=by omega
  by_cases c1:j<i
  · have q1:(i:Int) - (j:Int)=((i - j:Nat):Int):=by omega
    have d1:((i:Int) !=(j:Int))=true:=by rw[bne_iff_ne];omega
    obtain⟨x,hx⟩:∃x,m - i=x:=⟨_,rfl⟩
    obtain⟨z,hz⟩:∃x,i - j=x:=⟨_,rfl⟩
    rw[hx] at e1' e1'';rw[hz] at q1;have HX:=hid hx;have HZ:=hid hz;have hxj:x+j≤m:=by omega
    clear hx hz;go_wp2_with fail;refine(z6x b n c x m j cmpf e1 _ HN.out hxj p4 HL.out).mono ?_;rintro e w' ⟨rfl,l1,k1⟩;have L1:=hid l1;have K1:=hid (HK.out.trans k1 (fun _ h=> .inl h));clear l1 k1;go_wp2_with fail;go_roundw
    case rel=>
     have hx:=HX.out;have hz:=HZ.out;refine⟨z,j,_,rfl,rfl,by omega,p2,by omega,p4,L1.out,hid (fun t=> ?_),K1.out⟩;rw[←hz,←hx];exact(zd5 e1 p3 c1 t).trans (HR.out t)
    case measure=>have hz:=HZ.out;simp[intOf];omega
  · by_cases c2:i<j
    · have q1:(j:Int) - (i:Int)=((j - i:Nat):Int):=by omega
      have q2:(m:Int)+(j:Int) - (i:Int)=((m+j - i:Nat):Int):=by omega
      have d1:((i:Int) !=(j:Int))=true:=by rw[bne_iff_ne];omega
      obtain⟨x,hx⟩:∃x,m - i=x:=⟨_,rfl⟩
      obtain⟨y,hy⟩:∃x,m+j - i=x:=⟨_,rfl⟩
      obtain⟨z,hz⟩:∃x,j - i=x:=⟨_,rfl⟩
      rw[hx] at e1' e1'';rw[hy] at q2;rw[hz] at q1;have HX:=hid hx;have HY:=hid hy;have HZ:=hid hz;have hxj:x+i≤y:=by omega
      have hyj:y+i≤n:=by omega
      clear hx hy hz;go_wp2_with fail;refine(z6x b n c x y i cmpf e1 _ HN.out hxj hyj HL.out).mono ?_;rintro e w' ⟨rfl,l1,k1⟩;have L1:=hid l1;have K1:=hid (HK.out.trans k1 (fun _ h=> .inl h));clear l1 k1;go_wp2_with fail;go_roundw
      case rel=>
       have hx:=HX.out;have hy:=HY.out;have hz:=HZ.out;refine⟨i,z,_,rfl,rfl,p1,by omega,p3,by omega,L1.out,hid (fun t=> ?_),K1.out⟩;rw[←hz,←hx,←hy];exact(zad e1 p3 c2 t).trans (HR.out t)
      case measure=>have hz:=HZ.out;simp[intOf];omega
    · obtain rfl:i=j:=by omega
      have d1:((i:Int) !=(i:Int))=false:=by simp
      obtain⟨x,hx⟩:∃x,m - i=x:=⟨_,rfl⟩
      rw[hx] at e1' e1'';have HX:=hid hx;have hxj:x+i≤m:=by omega
      clear hx;go_wp2_with fail;refine(z6x b n c x m i cmpf e1 _ HN.out hxj p4 HL.out).mono ?_;rintro e w' ⟨rfl,l1,k1⟩;have hx:=HX.out;have L1:=hid (l1.congr (e':=rot e a m d) (fun t _=>by rw[←hx];exact(zfY e1 p3 t).trans (HR.out t)));have K1:=hid (HK.out.trans k1 (fun _ h=> .inl h));clear l1 k1 hx;go_wp2_with fail;go_end0;exact⟨rfl,L1.out,K1.out⟩
end Go.Proofs.YtacelhaidcmbcaaGreatDoor
