import Derived.Test.YtdpabanajgegjaaGreatDoorEMRns
import Derived.Test.YtdpabanajgegjaaGreatDoorESaL
import Derived.Test.YtdpabanajgegjaaGreatDoorEMSaA
import Derived.BigRegion
import Derived.Deep.CutRange
namespace Go.Proofs.YtdpabanajgegjaaGreatDoor.U
open Go.Lib (hid)
open Go Go.RowKit M
set_option linter.unusedVariables false
set_option maxRecDepth 1000000
set_option linter.unusedSimpArgs false
theorem vl_le{out:List Nat}{s e:Nat}(ho:∀x∈out,x≤15):vlr out ⟨s,e⟩≤15:=by
 unfold vlr;simp only
 split
 · rw[List.getLastD_eq_getLast?]
   cases h:out.getLast? with
   |none=>exact Nat.zero_le _
   |some x=>exact ho x (List.mem_of_getLast? h)
 · split<;>omega
theorem tms_lt{s e:Nat}(h:tms ⟨s,e⟩≠0):s<19:=by
 rcases Nat.lt_or_ge s 19 with g|g
 · exact g
 · exact absurd (tms_far (by omega)) h
def UnC(W:World)(X:Int)(Y:List Nat)(e:Ending)(w':World):Prop:=∃A c,e=.returned (.tuple #[.slice A Y.length c,.int .i64 X])∧IsBys w' A Y.length Y∧Y.length≤c∧Below W.heap.size W w'
theorem owb_cap{B:Nat}{w:World}{A:Option Addr}{n c:Nat}{l:List Nat}(h:Owb B w (.slice A n c) l):l.length≤c:=by
 rcases h.2 with⟨e,h0⟩|⟨g,cap,cur,e,_,_,hnc,_⟩
 · injection e with _ _ e;omega
 · injection e with _ _ e;omega
set_option maxRecDepth 1000000 in
set_option maxHeartbeats 2000000 in
theorem unpack_any(A:Option Addr)(m c:Nat)(L:List Rn)(n:Nat)(w:World)(HT:Tab w)(H:IsRns w A m L)(hm:m≤4000)(hn:n≤9223372036854775807):Calls Tryz.prog 168 #[.slice A m c,.int .i64 n] w (UnC w (unp n [] L).1 (unp n [] L).2):=by
 have d:decide ((n:Int)<0)=false:=decide_eq_false (by omega);obtain⟨X,Y,hXY⟩:∃X Y,unp n [] L=(X,Y):=⟨_,_,rfl⟩
 rw[hXY];have HXY:=hid hXY;have HH:=hid H;have HL:=hid H.leng;have HTab:=hid HT;clear H hXY HT;unfold UnC;go_enter Tryz.func168,Tryz.ntmps168;go_wp2_with fail
 go_loopw [6,16] (fun v x wr=> ∃ (j:Nat) (out:List Nat),j≤m∧x=.int .i64 j∧Owb w.heap.size wr v out∧unp n [] L=unp n out (L.drop j)∧(∀x∈out,x≤15)∧(out.length≤n∧out.length≤138*j)∧Below w.heap.size w wr) (fun _ x _=>m - (intOf x).toNat)
 case atStart=>exact⟨0,[],Nat.zero_le _,rfl,Owb.nil _ _,by rw[List.drop_zero],fun x hx=>absurd hx (by simp),⟨Nat.zero_le _,Nat.zero_le _⟩,Below.refl _ _⟩
 case round=>
  obtain⟨j,out,hj,rfl,hO,hU,hok,hlen,hb2⟩:=hrel;obtain⟨A',c',rfl,hBy⟩:=hO.bys (fun x hx=>by have:=hok x hx;omega) (by unfold maxLen;omega);have HCap:=hid (owb_cap hO);obtain⟨ol,hol⟩:∃ol,out.length=ol:=⟨_,rfl⟩
  rw[hol] at hlen;have HOl:=hid hol;have HLen:=hid hlen;have HB2:=hid hb2;have HOk:=hid hok;by_cases hlt:j<m
  · have d1:decide ((j:Int)<(m:Int))=true:=decide_eq_true (by omega)
    have d1':decide (j<m)=true:=decide_eq_true hlt;have HIr:=HH.out.below hb2;obtain⟨b,o,rfl,hbb,hc⟩:=HIr.at (by omega);obtain⟨c0,c1⟩:=hc j hlt;have hle:=HIr.le j;obtain⟨r,hr⟩:∃r,L.getD j default=r:=⟨_,rfl⟩
    rw[hr] at c0 c1 hle;have hdr:L.drop j=r::L.drop (j+1):=by rw[List.drop_eq_getElem_cons (by rw[HL.out];exact hlt),←hr,List.getD,List.getElem?_eq_getElem (by rw[HL.out];exact hlt)];rfl
    obtain⟨LJ,hLJ⟩:∃LJ,L.drop (j+1)=LJ:=⟨_,rfl⟩
    rw[hLJ] at hdr;have HLJ:=hid hLJ;rw[hdr] at hU;have HU:=hid hU;obtain⟨s,e⟩:=r;simp only at c0 c1 hle;have hbr:Below w.heap.size w (wr.alloc (.cells #[.int .u8 s,.int .u8 e] 134)):=hb2.alloc hb2.size _;have hTi:=times_any s e (wr.alloc (.cells #[.int .u8 s,.int .u8 e] 134)) (HTab.out.below hbr (Nat.le_refl _)) hle.1 hle.2;have hk138:=tms_le ⟨s,e⟩;obtain⟨k,hk⟩:∃k,tms ⟨s,e⟩=k:=⟨_,rfl⟩
    rw[hk] at hTi hk138;have HTm:=hid hk;have HBy:=hid hBy;have hs255:=hle.1;have HO:=hid hO;have HBR:=hid hbr;have n0:(wr.alloc (.cells #[.int .u8 s,.int .u8 e] 134)).cell? ⟨wr.heap.size,0,none⟩=some (.int .u8 s):=by simp
    have N0:=hid n0;have holb:ol≤552000:=by omega
    rw[hol] at HBy ⊢;have HWs:=hid hb2.size;by_cases hk0:k=0
    · have dk:decide (0<k)=false:=decide_eq_false (by omega)
      rw[dk,hk0] at hTi;have HTi:=hid hTi;have hu:=HU.out.trans (unp_arg (r:=⟨s,e⟩) (L:=LJ) (out:=out) (n:=n) (by rw[HTm.out];exact hk0));rw[HXY.out] at hu;obtain⟨rfl,rfl⟩:X=2∧Y=[]:=by injection hu with a b;exact⟨a,b⟩
      clear hu hk0 hO hU hdr hLJ hTi hk hr hc HIr hok hlen hb2 hol hBy hbr n0 dk;go_wp2_with (go_at_call 167;(with_reducible refine HTi.out.mono ?_);rintro e w3 ⟨rfl,b3⟩;have HB3:=hid (HBR.out.trans (b3.mono HBR.out.size));clear b3);go_ret2;exact⟨none,0,rfl,IsBys.nil _ _,Nat.le_refl _,HB3.out⟩
    have dk:decide (0<k)=true:=decide_eq_true (by omega);rw[dk] at hTi;have HTi:=hid hTi;have hs19:s<19:=tms_lt (e:=e) (by rw[hk];exact hk0);have HB1x:=hid (hb2.size);clear hO hU hdr hLJ hTi hk hr hc HIr hok hlen hb2 hol hBy hbr n0 dk;by_cases h16:s=16∧ol=0
    · obtain⟨h16,hz⟩:=h16
      have e1:((s:Int)==16)=true:=by rw[beq_iff_eq];omega
      have e1':(s==16)=true:=by rw[beq_iff_eq];exact h16
      have q2:((ol:Int)==0)=true:=by rw[beq_iff_eq];omega
      have q2':(ol==0)=true:=by rw[beq_iff_eq];exact hz
      have hu:=HU.out.trans (unp_first (r:=⟨s,e⟩) (L:=LJ) (out:=out) (n:=n) (by rw[HTm.out];exact hk0) h16 (List.length_eq_zero_iff.1 (by rw[HOl.out];exact hz)));rw[HXY.out] at hu;obtain⟨rfl,rfl⟩:X=7∧Y=[]:=by injection hu with a b;exact⟨a,b⟩
      clear hu hk0 h16 hz;go_wp2_with (go_at_call 167;(with_reducible refine HTi.out.mono ?_);rintro e w3 ⟨rfl,b3⟩;have r0:=(b3.cell (p:=⟨wr.heap.size,0,none⟩) (by simp)).trans N0.out;have HB3:=hid (HBR.out.trans (b3.mono HBR.out.size));clear b3);go_ret2;exact⟨none,0,rfl,IsBys.nil _ _,Nat.le_refl _,HB3.out⟩
    have HNo:=hid (show ¬((⟨s,e⟩:Rn).s=16∧out=[]) from fun q=>h16 ⟨q.1,by rw[←HOl.out,q.2];rfl⟩)
    have hpos:s=16→0<ol:=fun g=>by
     rcases Nat.eq_zero_or_pos ol with g2|g2
     · exact absurd ⟨g,g2⟩ h16
     · exact g2
    obtain⟨vv,hvv⟩:∃vv,vlr out ⟨s,0⟩=vv:=⟨_,rfl⟩
    have hv15:vv≤15:=by rw[←hvv];exact vl_le HOk.out
    have HLe:=hid (fun(w:World) (h:IsBys w A' ol out)=>lengthOf_any A' ol c' out s w h hs19 hpos (by omega));rw[hvv] at HLe;have HVl:=hid (show vlr out ⟨s,e⟩=vv from hvv);have HVv:=hid hv15;clear hpos hvv hv15;by_cases hs16:s=16
    · have e1:((s:Int)==16)=true:=by rw[beq_iff_eq];omega
      have e1':(s==16)=true:=by rw[beq_iff_eq];exact hs16
      have hz:ol≠0:=fun g=>h16 ⟨hs16,g⟩
      have q2:((ol:Int)==0)=false:=by rw[beq_eq_false_iff_ne];omega
      have q2':(ol==0)=false:=by rw[beq_eq_false_iff_ne];exact hz
      clear hz hs16 h16;by_cases hmore:n<ol+k
      · have d5:decide ((n:Int) - (ol:Int)<(k:Int))=true:=decide_eq_true (by omega)
        have d5':decide (n - ol<k)=true:=decide_eq_true (by omega);have hu:=HU.out.trans (unp_more (r:=⟨s,e⟩) (L:=LJ) (out:=out) (n:=n) (by rw[HTm.out];exact hk0) HNo.out (by rw[HTm.out,HOl.out];exact hmore));rw[HXY.out] at hu;obtain⟨rfl,rfl⟩:X=7∧Y=[]:=by injection hu with a b;exact⟨a,b⟩
        clear hu hmore hk0;go_wp2_with (go_at_call 167;(with_reducible refine HTi.out.mono ?_);rintro e w3 ⟨rfl,b3⟩;have r0:=(b3.cell (p:=⟨wr.heap.size,0,none⟩) (by simp)).trans N0.out;have HB3:=hid (HBR.out.trans (b3.mono HBR.out.size));clear b3);go_ret2;exact⟨none,0,rfl,IsBys.nil _ _,Nat.le_refl _,HB3.out⟩
      · have d5:decide ((n:Int) - (ol:Int)<(k:Int))=false:=decide_eq_false (by omega)
        have d5':decide (n - ol<k)=false:=decide_eq_false (by omega);have hu:=HU.out.trans (unp_go (r:=⟨s,e⟩) (L:=LJ) (out:=out) (n:=n) (by rw[HTm.out];exact hk0) HNo.out (by rw[HTm.out,HOl.out];exact hmore));rw[HTm.out,HVl.out] at hu;have HU2:=hid hu;have HMo:=hid (show ol+k≤n∧k≠0∧ol+k≤138*(j+1) from by have:=HLen.out;omega);clear hu hmore hk0
        go_wp2_with (first
         |(go_at_call 167;(with_reducible refine HTi.out.mono ?_);rintro e w3 ⟨rfl,b3⟩;have r0:=(b3.cell (p:=⟨wr.heap.size,0,none⟩) (by simp)).trans N0.out;have HO3:=hid ((HO.out.alloc _).below b3);have HY3:=hid ((HBy.out.below ((Below.refl wr.heap.size wr).alloc (Nat.le_refl _) _)).below b3);have HB3:=hid (HBR.out.trans (b3.mono HBR.out.size));clear b3)
         |(go_at_call 204;(with_reducible refine(HLe.out _ HY3.out).mono ?_);rintro e w4 ⟨rfl,hw4⟩;subst hw4))
        go_loopw [6,48] (fun y z wr3=> ∃i:Nat,i≤k∧z=.int .i64 i∧Owb w.heap.size wr3 y (out++List.replicate i vv)∧Below w.heap.size w wr3) (fun _ z _=>k - (intOf z).toNat)
        case atStart=>exact⟨0,Nat.zero_le _,rfl,by have:=HO3.out;rw[HOl.out] at this;simpa using this,HB3.out⟩
        case round=>
         obtain⟨i,hi,rfl,hoi,hbi⟩:=hrel;have HOi:=hid hoi;have HBi:=hid hbi;clear hoi hbi;by_cases hik:i<k
         · have d6:decide ((i:Int)<(k:Int))=true:=decide_eq_true (by omega)
           have d6':decide (i<k)=true:=decide_eq_true hik;go_wp2_with (at_builtin;refine wpList_ab rfl (.tmp 50) (.tmp 52) rfl w.heap.size _ (out++List.replicate i vv) rfl (HOi.out.alloc _) wr.heap.size 1 vv rfl (by simp) (by rw[List.length_append,List.length_replicate,HOl.out];have:=HLen.out;omega) (by have:=HBi.out.size;simp;omega) ?_;intro v' w' o' g' b';have HO4:=hid o';have HB4:=hid ((HBi.out.alloc HBi.out.size _).trans b');clear o' g' b');go_roundw
           case rel=>exact⟨i+1,by omega,by go_num,by rw[List.replicate_succ',←List.append_assoc];exact HO4.out,HB4.out⟩
           case measure=>(simp[intOf];try omega)
         · obtain rfl:i=k:=by omega
           have d6:decide ((i:Int)<(i:Int))=false:=decide_eq_false (by omega);have d6':decide (i<i)=false:=decide_eq_false (by omega);have HJ:=hid (show j+1≤m∧j+1≤100000 from by omega);have hjb:j≤100000:=by omega
           clear hik;go_wp2_with fail;go_roundw
           case rel=>exact⟨j+1,out++List.replicate i vv,HJ.out.1,by go_num,HOi.out,by rw[HXY.out] at HU2 ⊢;rw[HLJ.out];exact HU2.out,by intro x hx;rcases List.mem_append.1 hx with q|q;exact HOk.out x q;(rw[(List.mem_replicate.1 q).2];exact HVv.out),by rw[List.length_append,List.length_replicate,HOl.out];have:=HMo.out;omega,HBi.out⟩
           case measure=>(have:=HJ.out.1;simp[intOf];try omega)
    · have e1:((s:Int)==16)=false:=by rw[beq_eq_false_iff_ne];omega
      have e1':(s==16)=false:=by rw[beq_eq_false_iff_ne];exact hs16
      clear hs16 h16;by_cases hmore:n<ol+k
      · have d5:decide ((n:Int) - (ol:Int)<(k:Int))=true:=decide_eq_true (by omega)
        have d5':decide (n - ol<k)=true:=decide_eq_true (by omega);have hu:=HU.out.trans (unp_more (r:=⟨s,e⟩) (L:=LJ) (out:=out) (n:=n) (by rw[HTm.out];exact hk0) HNo.out (by rw[HTm.out,HOl.out];exact hmore));rw[HXY.out] at hu;obtain⟨rfl,rfl⟩:X=7∧Y=[]:=by injection hu with a b;exact⟨a,b⟩
        clear hu hmore hk0;go_wp2_with (go_at_call 167;(with_reducible refine HTi.out.mono ?_);rintro e w3 ⟨rfl,b3⟩;have r0:=(b3.cell (p:=⟨wr.heap.size,0,none⟩) (by simp)).trans N0.out;have HB3:=hid (HBR.out.trans (b3.mono HBR.out.size));clear b3);go_ret2;exact⟨none,0,rfl,IsBys.nil _ _,Nat.le_refl _,HB3.out⟩
      · have d5:decide ((n:Int) - (ol:Int)<(k:Int))=false:=decide_eq_false (by omega)
        have d5':decide (n - ol<k)=false:=decide_eq_false (by omega);have hu:=HU.out.trans (unp_go (r:=⟨s,e⟩) (L:=LJ) (out:=out) (n:=n) (by rw[HTm.out];exact hk0) HNo.out (by rw[HTm.out,HOl.out];exact hmore));rw[HTm.out,HVl.out] at hu;have HU2:=hid hu;have HMo:=hid (show ol+k≤n∧k≠0∧ol+k≤138*(j+1) from by have:=HLen.out;omega);clear hu hmore hk0
        go_wp2_with (first
         |(go_at_call 167;(with_reducible refine HTi.out.mono ?_);rintro e w3 ⟨rfl,b3⟩;have r0:=(b3.cell (p:=⟨wr.heap.size,0,none⟩) (by simp)).trans N0.out;have HO3:=hid ((HO.out.alloc _).below b3);have HY3:=hid ((HBy.out.below ((Below.refl wr.heap.size wr).alloc (Nat.le_refl _) _)).below b3);have HB3:=hid (HBR.out.trans (b3.mono HBR.out.size));clear b3)
         |(go_at_call 204;(with_reducible refine(HLe.out _ HY3.out).mono ?_);rintro e w4 ⟨rfl,hw4⟩;subst hw4))
        go_loopw [6,48] (fun y z wr3=> ∃i:Nat,i≤k∧z=.int .i64 i∧Owb w.heap.size wr3 y (out++List.replicate i vv)∧Below w.heap.size w wr3) (fun _ z _=>k - (intOf z).toNat)
        case atStart=>exact⟨0,Nat.zero_le _,rfl,by have:=HO3.out;rw[HOl.out] at this;simpa using this,HB3.out⟩
        case round=>
         obtain⟨i,hi,rfl,hoi,hbi⟩:=hrel;have HOi:=hid hoi;have HBi:=hid hbi;clear hoi hbi;by_cases hik:i<k
         · have d6:decide ((i:Int)<(k:Int))=true:=decide_eq_true (by omega)
           have d6':decide (i<k)=true:=decide_eq_true hik;go_wp2_with (at_builtin;refine wpList_ab rfl (.tmp 50) (.tmp 52) rfl w.heap.size _ (out++List.replicate i vv) rfl (HOi.out.alloc _) wr.heap.size 1 vv rfl (by simp) (by rw[List.length_append,List.length_replicate,HOl.out];have:=HLen.out;omega) (by have:=HBi.out.size;simp;omega) ?_;intro v' w' o' g' b';have HO4:=hid o';have HB4:=hid ((HBi.out.alloc HBi.out.size _).trans b');clear o' g' b');go_roundw
           case rel=>exact⟨i+1,by omega,by go_num,by rw[List.replicate_succ',←List.append_assoc];exact HO4.out,HB4.out⟩
           case measure=>(simp[intOf];try omega)
         · obtain rfl:i=k:=by omega
           have d6:decide ((i:Int)<(i:Int))=false:=decide_eq_false (by omega);have d6':decide (i<i)=false:=decide_eq_false (by omega);have HJ:=hid (show j+1≤m∧j+1≤100000 from by omega);have hjb:j≤100000:=by omega
           clear hik;go_wp2_with fail;go_roundw
           case rel=>exact⟨j+1,out++List.replicate i vv,HJ.out.1,by go_num,HOi.out,by rw[HXY.out] at HU2 ⊢;rw[HLJ.out];exact HU2.out,by intro x hx;rcases List.mem_append.1 hx with q|q;exact HOk.out x q;(rw[(List.mem_replicate.1 q).2];exact HVv.out),by rw[List.length_append,List.length_replicate,HOl.out];have:=HMo.out;omega,HBi.out⟩
           case measure=>(have:=HJ.out.1;simp[intOf];try omega)
  · obtain rfl:j=m:=by omega
    have d1:decide ((j:Int)<(j:Int))=false:=decide_eq_false (by omega);have d1':decide (j<j)=false:=decide_eq_false (by omega);rw[List.drop_of_length_le (by rw[HL.out];exact Nat.le_refl _)] at hU;have HBy:=hid hBy;by_cases hless:ol<n
    · have d2:decide ((ol:Int)<(n:Int))=true:=decide_eq_true (by omega)
      have d2':decide (ol<n)=true:=decide_eq_true hless;rw[unp_less (by rw[hol];exact hless),HXY.out] at hU;obtain⟨rfl,rfl⟩:X=7∧Y=[]:=by injection hU with a b;exact⟨a,b⟩
      rw[hol];clear hO hU hok hb2 hol hBy hless;go_wp2_with fail;go_ret2;exact⟨none,0,rfl,IsBys.nil _ _,Nat.le_refl _,HB2.out⟩
    · have d2:decide ((ol:Int)<(n:Int))=false:=decide_eq_false (by omega)
      have d2':decide (ol<n)=false:=decide_eq_false hless;rw[unp_end (by rw[hol];exact hless),HXY.out] at hU;obtain⟨rfl,rfl⟩:X=0∧Y=out:=by injection hU with a b;exact⟨a,b⟩
      rw[hol] at HBy ⊢;clear hO hU hok hb2 hol hBy hless;go_wp2_with fail;go_ret2;exact⟨_,_,by rw[HOl.out];rfl,by rw[HOl.out];exact HBy.out,by first|exact HCap.out|(rw[HOl.out];exact HCap.out)|(rw[←HOl.out];exact HCap.out),HB2.out⟩
end Go.Proofs.YtdpabanajgegjaaGreatDoor.U
