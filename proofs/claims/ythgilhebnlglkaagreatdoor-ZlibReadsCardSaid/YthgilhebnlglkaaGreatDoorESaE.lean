import Derived.Test.YthgilhebnlglkaaGreatDoorEMSaA
import Derived.Deep.CutRange
set_option linter.all false
set_option maxHeartbeats 8000000
set_option maxRecDepth 1000000
open Go.Proofs.Tryz
namespace Go.Proofs.YthgilhebnlglkaaGreatDoor.U
open Go Go.RowKit M
theorem zjQ{out:List Nat}{s e:Nat}(ho:∀x∈out,x<=15):vlr out ⟨s,e⟩<=15:=by
 unfold vlr;simp only
 split
 · rw[List.getLastD_eq_getLast?]
   cases h:out.getLast? with
   |none=>exact qZ
   |some x=>exact ho x (List.mem_of_getLast? h)
 · split<;>omega
theorem zie{s e:Nat}(h:tms ⟨s,e⟩≠0):s<19:=by
 rcases Nat.lt_or_ge s 19 with g|g
 · exact g
 · exact absurd (z9M (by omega)) h
def UnC(W:World)(X:Int)(Y:List Nat)(e:Ending)(w':World):Prop:=∃A c,e=.returned (.tuple #[.slice A Y.length c,.int .i64 X])/\IsBys w' A Y.length Y/\Y.length<=c/\Below W.heap.size W w'
theorem owb_cap{B:Nat}{w:World}{A:Option Addr}{n c:Nat}{l:List Nat}(h:Owb B w (.slice A n c) l):l.length<=c:=by
 rcases h.2 with⟨e,h0⟩|⟨g,cap,cur,e,_,_,hnc,_⟩
 · injection e with _ _ e;omega
 · injection e with _ _ e;omega
theorem unpack_any(A:Option Addr)(m c:Nat)(L:List Rn)(n:Nat)(w:World)(HT:Tab w)(H:z2q w A m L)(hm:m<=4000)(hn:n<=9223372036854775807):Calls prog 257 #[.slice A m c,.int .i64 n] w (UnC w (unp n [] L).1 (unp n [] L).2):=by
 have d:decide ((n:Int)<0)=false:=qF (by omega);obtain⟨X,Y,hXY⟩:∃X Y,unp n [] L=(X,Y):=⟨_,_,rfl⟩
 rw[hXY];obtain⟨HXY,HH,HL,HTab⟩:=qh4 hXY H H.leng HT;clear H hXY HT;unfold UnC;go_enter func257,ntmps257;go_wp2_with fail
 go_loopw [6,16] (λv x wr=> ∃ (j:Nat) (out:List Nat),j<=m/\x=.int .i64 j/\Owb w.heap.size wr v out/\unp n [] L=unp n out (L.drop j)/\(∀x∈out,x<=15)/\(out.length<=n/\out.length<=138*j)/\Below w.heap.size w wr) (λ_ x _=>m - (intOf x).toNat)
 case atStart=>exact⟨0,[],qZ,rfl,Owb.nil _ _,by rw[List.drop_zero],λx hx=>absurd hx (by simp),⟨qZ,qZ⟩,Below.refl _ _⟩
 case round=>
  obtain⟨j,out,hj,rfl,hO,hU,hok,hlen,hb2⟩:=hrel;obtain⟨A',c',rfl,hBy⟩:=hO.bys (λx hx=>by have:=hok x hx;omega) (by unfold maxLen;omega);have HCap:=qH (owb_cap hO);obtain⟨ol,hol⟩:∃ol,out.length=ol:=⟨_,rfl⟩
  rw[hol] at hlen;obtain⟨HOl,HLen,HB2,HOk⟩:=qh4 hol hlen hb2 hok;by_cases hlt:j<m
  · have HIr:=HH.o.below hb2
    obtain⟨b,o,rfl,hbb,hc⟩:=HIr.at (by omega);obtain⟨c0,c1⟩:=hc j hlt;have hle:=HIr.le j;generalize hr:L.getD j default=r at c0 c1 hle;have hdr:L.drop j=r::L.drop (j+1):=(by rw[List.drop_eq_getElem_cons (by rw[HL.o];exact hlt),<-hr,List.getD,qE (by rw[HL.o];exact hlt)];rfl);generalize hLJ:L.drop (j+1)=LJ at hdr;have HLJ:=qH hLJ;rw[hdr] at hU;have HU:=qH hU;obtain⟨s,e⟩:=r;simp only at c0 c1 hle;have hbr:Below w.heap.size w (wr.alloc (.cells #[.int .u8 s,.int .u8 e] 225)):=hb2.alloc hb2.size _;have hTi:=times_any s e (wr.alloc (.cells #[.int .u8 s,.int .u8 e] 225)) (HTab.o.below hbr qR) hle.1 hle.2;have hk138:=z9L ⟨s,e⟩;obtain⟨k,hk⟩:∃k,tms ⟨s,e⟩=k:=⟨_,rfl⟩
    rw[hk] at hTi hk138;obtain⟨HTm,HBy,HO,HBR⟩:=qh4 hk hBy hO hbr;have n0:(wr.alloc (.cells #[.int .u8 s,.int .u8 e] 225)).cell? ⟨wr.heap.size,0,none⟩=some (.int .u8 s):=(by simp);have N0:=qH n0;have holb:ol<=552000:=(by omega);rw[hol] at HBy ⊢;by_cases hk0:k=0
    · have dk:decide (0<k)=false:=qF (by omega)
      rw[dk,hk0] at hTi;have HTi:=qH hTi;have hu:=HU.o.trans (zgf (r:=⟨s,e⟩) (L:=LJ) (out:=out) (n:=n) (by rw[HTm.o];exact hk0));rw[HXY.o] at hu;obtain⟨rfl,rfl⟩:X=2/\Y=[]:=by injection hu with a b;exact⟨a,b⟩
      clear hu hk0 hO hU hdr hLJ hTi hk hr hc HIr hok hlen hb2 hol hBy hbr n0 dk;go_wp2_with (go_at_call 256;(with_reducible refine qcb HBR HTi.o ?_);intro w3 HB3);go_ret2;exact⟨none,0,rfl,IsBys.nil _ _,qR,HB3.o⟩
    have dk:decide (0<k)=true:=q9T (by omega);rw[dk] at hTi;have HTi:=qH hTi;have hs19:s<19:=zie (e:=e) (by rw[hk];exact hk0);clear hO hU hdr hLJ hTi hk hr hc HIr hok hlen hb2 hol hBy hbr n0 dk;by_cases h16:s=16/\ol=0
    · obtain⟨h16,hz⟩:=h16
      have e1:((s:Int)==16)=true:=(by rw[beq_iff_eq];omega);have q2:((ol:Int)==0)=true:=(by rw[beq_iff_eq];omega);have hu:=HU.o.trans (z9F (r:=⟨s,e⟩) (L:=LJ) (out:=out) (n:=n) (by rw[HTm.o];exact hk0) h16 (List.length_eq_zero_iff.1 (by rw[HOl.o];exact hz)));rw[HXY.o] at hu;obtain⟨rfl,rfl⟩:X=7/\Y=[]:=by injection hu with a b;exact⟨a,b⟩
      clear hu hk0 h16 hz;go_wp2_with (go_at_call 256;(with_reducible refine HTi.o.mono ?_);rintro e w3 ⟨rfl,b3⟩;have r0:=(b3.cell (p:=⟨wr.heap.size,0,none⟩) (by simp)).trans N0.o;have HB3:=qbt HBR b3;clear b3);go_ret2;exact⟨none,0,rfl,IsBys.nil _ _,qR,HB3.o⟩
    have HNo:=qH (show ¬((⟨s,e⟩:Rn).s=16/\out=[]) from λq=>h16 ⟨q.1,by rw[<-HOl.o,q.2];rfl⟩);have hpos:s=16->0<ol:=λg=>by
     rcases Nat.eq_zero_or_pos ol with g2|g2
     · exact absurd ⟨g,g2⟩ h16
     · exact g2
    obtain⟨vv,hvv⟩:∃vv,vlr out ⟨s,0⟩=vv:=⟨_,rfl⟩
    have hv15:vv<=15:=(by rw[<-hvv];exact zjQ HOk.o);have HLe:=qH (λ(w:World) (h:IsBys w A' ol out)=>z5F A' ol c' out s w h hs19 hpos (by omega));rw[hvv] at HLe;have HVl:=qH (show vlr out ⟨s,e⟩=vv from hvv);have HVv:=qH hv15;clear hpos hvv hv15;by_cases hs16:s=16
    · have e1:((s:Int)==16)=true:=by rw[beq_iff_eq];omega
      have hz:ol≠0:=λg=>h16 ⟨hs16,g⟩
      have q2:((ol:Int)==0)=false:=(by rw[qN];omega);clear hz hs16 h16;by_cases hmore:n<ol+k
      · have d5:decide ((n:Int) - (ol:Int)<(k:Int))=true:=q9T (by omega)
        have hu:=HU.o.trans (z71 (r:=⟨s,e⟩) (L:=LJ) (out:=out) (n:=n) (by rw[HTm.o];exact hk0) HNo.o (by rw[HTm.o,HOl.o];exact hmore));rw[HXY.o] at hu;obtain⟨rfl,rfl⟩:X=7/\Y=[]:=by injection hu with a b;exact⟨a,b⟩
        clear hu hmore hk0;go_wp2_with (go_at_call 256;(with_reducible refine HTi.o.mono ?_);rintro e w3 ⟨rfl,b3⟩;have r0:=(b3.cell (p:=⟨wr.heap.size,0,none⟩) (by simp)).trans N0.o;have HB3:=qbt HBR b3;clear b3);go_ret2;exact⟨none,0,rfl,IsBys.nil _ _,qR,HB3.o⟩
      · have d5:decide ((n:Int) - (ol:Int)<(k:Int))=false:=qF (by omega)
        have d5':decide (n - ol<k)=false:=qF (by omega);have hu:=HU.o.trans (z2R (r:=⟨s,e⟩) (L:=LJ) (out:=out) (n:=n) (by rw[HTm.o];exact hk0) HNo.o (by rw[HTm.o,HOl.o];exact hmore));rw[HTm.o,HVl.o] at hu;have HU2:=qH hu;have HMo:=qH (show ol+k<=n/\k≠0/\ol+k<=138*(j+1) from by have:=HLen.o;omega);clear hu hmore hk0
        go_wp2_with (first
         |(go_at_call 256;(with_reducible refine HTi.o.mono ?_);rintro e w3 ⟨rfl,b3⟩;have r0:=(b3.cell (p:=⟨wr.heap.size,0,none⟩) (by simp)).trans N0.o;have HO3:=qH ((HO.o.alloc _).below b3);have HY3:=qH ((HBy.o.below ((Below.refl wr.heap.size wr).alloc qR _)).below b3);have HB3:=qbt HBR b3;clear b3)
         |(go_at_call 289;(with_reducible refine(HLe.o _ HY3.o).mono ?_);rintro e w4 ⟨rfl,hw4⟩;subst hw4))
        go_loopw [6,48] (λy z wr3=> ∃i:Nat,i<=k/\z=.int .i64 i/\Owb w.heap.size wr3 y (out++List.replicate i vv)/\Below w.heap.size w wr3) (λ_ z _=>k - (intOf z).toNat)
        case atStart=>exact⟨0,qZ,rfl,by have:=HO3.o;rw[HOl.o] at this;simpa using this,HB3.o⟩
        case round=>
         obtain⟨i,hi,rfl,hoi,hbi⟩:=hrel;obtain⟨HOi,HBi⟩:=qh2 hoi hbi;clear hoi hbi;by_cases hik:i<k
         · go_wp2_with (at_builtin;refine wpList_ab rfl (.tmp 50) (.tmp 52) rfl w.heap.size _ (out++List.replicate i vv) rfl (HOi.o.alloc _) wr.heap.size 1 vv rfl (by simp) (by rw[qA,List.length_replicate,HOl.o];have:=HLen.o;omega) (by have:=HBi.o.size;simp;omega) ?_;intro v' w' o' g' b';have HO4:=qH o';have HB4:=qH ((HBi.o.alloc HBi.o.size _).trans b');clear o' g' b')
           go_roundw
           case rel=>exact⟨i+1,by omega,by go_num,by rw[List.replicate_succ',<-qD];exact HO4.o,HB4.o⟩
           case measure=>(simp[intOf];try omega)
         · obtain rfl:i=k:=by omega
           have HJ:=qH (show j+1<=m/\j+1<=100000 from by omega);have hjb:j<=100000:=(by omega);clear hik;go_wp2_with fail;go_roundw
           case rel=>exact⟨j+1,out++List.replicate i vv,HJ.o.1,by go_num,HOi.o,by rw[HXY.o] at HU2 ⊢;rw[HLJ.o];exact HU2.o,by intro x hx;rcases List.mem_append.1 hx with q|q;exact HOk.o x q;(rw[(List.mem_replicate.1 q).2];exact HVv.o),by rw[qA,List.length_replicate,HOl.o];have:=HMo.o;omega,HBi.o⟩
           case measure=>(have:=HJ.o.1;simp[intOf];try omega)
    · have e1:((s:Int)==16)=false:=by rw[qN];omega
      clear hs16 h16;by_cases hmore:n<ol+k
      · have d5:decide ((n:Int) - (ol:Int)<(k:Int))=true:=q9T (by omega)
        have hu:=HU.o.trans (z71 (r:=⟨s,e⟩) (L:=LJ) (out:=out) (n:=n) (by rw[HTm.o];exact hk0) HNo.o (by rw[HTm.o,HOl.o];exact hmore));rw[HXY.o] at hu;obtain⟨rfl,rfl⟩:X=7/\Y=[]:=by injection hu with a b;exact⟨a,b⟩
        clear hu hmore hk0;go_wp2_with (go_at_call 256;(with_reducible refine HTi.o.mono ?_);rintro e w3 ⟨rfl,b3⟩;have r0:=(b3.cell (p:=⟨wr.heap.size,0,none⟩) (by simp)).trans N0.o;have HB3:=qbt HBR b3;clear b3);go_ret2;exact⟨none,0,rfl,IsBys.nil _ _,qR,HB3.o⟩
      · have d5:decide ((n:Int) - (ol:Int)<(k:Int))=false:=qF (by omega)
        have d5':decide (n - ol<k)=false:=qF (by omega);have hu:=HU.o.trans (z2R (r:=⟨s,e⟩) (L:=LJ) (out:=out) (n:=n) (by rw[HTm.o];exact hk0) HNo.o (by rw[HTm.o,HOl.o];exact hmore));rw[HTm.o,HVl.o] at hu;have HU2:=qH hu;have HMo:=qH (show ol+k<=n/\k≠0/\ol+k<=138*(j+1) from by have:=HLen.o;omega);clear hu hmore hk0
        go_wp2_with (first
         |(go_at_call 256;(with_reducible refine HTi.o.mono ?_);rintro e w3 ⟨rfl,b3⟩;have r0:=(b3.cell (p:=⟨wr.heap.size,0,none⟩) (by simp)).trans N0.o;have HO3:=qH ((HO.o.alloc _).below b3);have HY3:=qH ((HBy.o.below ((Below.refl wr.heap.size wr).alloc qR _)).below b3);have HB3:=qbt HBR b3;clear b3)
         |(go_at_call 289;(with_reducible refine(HLe.o _ HY3.o).mono ?_);rintro e w4 ⟨rfl,hw4⟩;subst hw4))
        go_loopw [6,48] (λy z wr3=> ∃i:Nat,i<=k/\z=.int .i64 i/\Owb w.heap.size wr3 y (out++List.replicate i vv)/\Below w.heap.size w wr3) (λ_ z _=>k - (intOf z).toNat)
        case atStart=>exact⟨0,qZ,rfl,by have:=HO3.o;rw[HOl.o] at this;simpa using this,HB3.o⟩
        case round=>
         obtain⟨i,hi,rfl,hoi,hbi⟩:=hrel;obtain⟨HOi,HBi⟩:=qh2 hoi hbi;clear hoi hbi;by_cases hik:i<k
         · go_wp2_with (at_builtin;refine wpList_ab rfl (.tmp 50) (.tmp 52) rfl w.heap.size _ (out++List.replicate i vv) rfl (HOi.o.alloc _) wr.heap.size 1 vv rfl (by simp) (by rw[qA,List.length_replicate,HOl.o];have:=HLen.o;omega) (by have:=HBi.o.size;simp;omega) ?_;intro v' w' o' g' b';have HO4:=qH o';have HB4:=qH ((HBi.o.alloc HBi.o.size _).trans b');clear o' g' b')
           go_roundw
           case rel=>exact⟨i+1,by omega,by go_num,by rw[List.replicate_succ',<-qD];exact HO4.o,HB4.o⟩
           case measure=>(simp[intOf];try omega)
         · obtain rfl:i=k:=by omega
           have HJ:=qH (show j+1<=m/\j+1<=100000 from by omega);have hjb:j<=100000:=(by omega);clear hik;go_wp2_with fail;go_roundw
           case rel=>exact⟨j+1,out++List.replicate i vv,HJ.o.1,by go_num,HOi.o,by rw[HXY.o] at HU2 ⊢;rw[HLJ.o];exact HU2.o,by intro x hx;rcases List.mem_append.1 hx with q|q;exact HOk.o x q;(rw[(List.mem_replicate.1 q).2];exact HVv.o),by rw[qA,List.length_replicate,HOl.o];have:=HMo.o;omega,HBi.o⟩
           case measure=>(have:=HJ.o.1;simp[intOf];try omega)
  · obtain rfl:j=m:=by omega
    rw[List.drop_of_length_le (by rw[HL.o];exact qR)] at hU;have HBy:=qH hBy;by_cases hless:ol<n
    · have d2':decide (ol<n)=true:=q9T hless
      rw[zcK (by rw[hol];exact hless),HXY.o] at hU;obtain⟨rfl,rfl⟩:X=7/\Y=[]:=by injection hU with a b;exact⟨a,b⟩
      rw[hol];clear hO hU hok hb2 hol hBy hless;go_wp2_with fail;go_ret2;exact⟨none,0,rfl,IsBys.nil _ _,qR,HB2.o⟩
    · have d2':decide (ol<n)=false:=qF hless
      rw[z9G (by rw[hol];exact hless),HXY.o] at hU;obtain⟨rfl,rfl⟩:X=0/\Y=out:=by injection hU with a b;exact⟨a,b⟩
      rw[hol] at HBy ⊢;clear hO hU hok hb2 hol hBy hless;go_wp2_with fail;go_ret2;exact⟨_,_,by rw[HOl.o];rfl,by rw[HOl.o];exact HBy.o,by first|exact HCap.o|(rw[HOl.o];exact HCap.o)|(rw[<-HOl.o];exact HCap.o),HB2.o⟩
