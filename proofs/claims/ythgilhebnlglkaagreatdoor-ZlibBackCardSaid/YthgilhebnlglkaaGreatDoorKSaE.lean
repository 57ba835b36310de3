import Derived.Test.YthgilhebnlglkaaGreatDoorKMSaA
import Derived.Deep.CutRange
set_option linter.all false
set_option maxHeartbeats 0
set_option maxRecDepth 1000000
open Go.Proofs.Tryz
namespace Go.Proofs.YthgilhebnlglkaaGreatDoor
namespace U
open Go Go.RowKit M
theorem vl_le{out:List Nat}{s e:Nat}(a:∀x∈out,x<=15):vlr out ⟨s,e⟩<=15:=by
 unfold vlr;simp only
 split
 · rw[List.getLastD_eq_getLast?]
   cases h:out.getLast? with
   |none=>exact qZ
   |some x=>exact a x (List.mem_of_getLast? h)
 · split<;>omega
theorem IP{s e:Nat}(h:tms ⟨s,e⟩≠0):s<19:=by
 rcases By s 19 with g|g
 · exact g
 · exact absurd (so (by omega)) h
def UnC(W:World)(X:Int)(Y:List Nat)(e:Ending)(w':World):Prop:=∃A c,e=.returned (.tuple #[.slice A Y.length c,.int .i64 X])/\IsBys w' A Y.length Y/\Y.length<=c/\Below W.heap.size W w'
theorem owb_cap{B:Nat}{w:World}{A:Option Addr}{n c:Nat}{l:List Nat}(h:Owb B w (.slice A n c) l):l.length<=c:=by
 rcases h.2 with⟨e,f⟩|⟨g,a,d,e,_,_,b,_⟩
 · injection e with _ _ e;omega
 · injection e with _ _ e;omega
theorem unpack_any(A:Option Addr)(m c:Nat)(L:List Rn)(n:Nat)(w:World)(HT:Tab w)(H:eC w A m L)(hm:m<=4000)(hn:n<=9223372036854775807):Calls prog 257 #[.slice A m c,.int .i64 n] w (UnC w (unp n [] L).1 (unp n [] L).2):=by
 have d:decide ((n:Int)<0)=false:=qF (by omega);obtain⟨X,Y,ad⟩:∃X Y,unp n [] L=(X,Y):=⟨_,_,rfl⟩
 rw[ad];obtain⟨K,HH,HL,au⟩:=qh4 ad H H.leng HT;clear H ad HT;unfold UnC;go_enter func257,ntmps257;go_wp2_with fail
 go_loopw [6,16] (λv x wr=> ∃ (j:Nat) (out:List Nat),j<=m/\x=.int .i64 j/\Owb w.heap.size wr v out/\unp n [] L=unp n out (L.drop j)/\(∀x∈out,x<=15)/\(out.length<=n/\out.length<=138*j)/\Below w.heap.size w wr) (λ_ x _=>m - (intOf x).toNat)
 case atStart=>exact⟨0,[],qZ,rfl,Owb.nil _ _,by rw[BZ],λx hx=>absurd hx (by simp),⟨qZ,qZ⟩,Below.refl _ _⟩
 case round=>
  obtain⟨j,out,hj,rfl,hO,hU,U,Q,M⟩:=hrel;obtain⟨A',c',rfl,R⟩:=hO.bys (λx hx=>by have:=U x hx;omega) (by unfold maxLen;omega);have Z:=qH (owb_cap hO);obtain⟨ol,E⟩:∃ol,out.length=ol:=⟨_,rfl⟩
  rw[E] at Q;obtain⟨u,P,aq,aj⟩:=qh4 E Q M U;by_cases ak:j<m
  · have a7:=HH.o.below M
    obtain⟨b,o,rfl,aA,hc⟩:=a7.at (by omega);obtain⟨c0,c1⟩:=hc j ak;have a6:=a7.le j;generalize hr:L.getD j default=r at c0 c1 a6;have hdr:L.drop j=r::L.drop (j+1):=(by rw[Co (by rw[HL.o];exact ak),<-hr,List.getD,qE (by rw[HL.o];exact ak)];rfl);generalize an:L.drop (j+1)=LJ at hdr;have ao:=qH an;rw[hdr] at hU;have HU:=qH hU;obtain⟨s,e⟩:=r;simp only at c0 c1 a6;have a8:Below w.heap.size w (wr.alloc (.cells #[.int .u8 s,.int .u8 e] 225)):=M.alloc M.size _;have O:=times_any s e (wr.alloc (.cells #[.int .u8 s,.int .u8 e] 225)) (au.o.below a8 qR) a6.1 a6.2;have ac:=zY ⟨s,e⟩;obtain⟨k,hk⟩:∃k,tms ⟨s,e⟩=k:=⟨_,rfl⟩
    rw[hk] at O ac;obtain⟨D,S,HO,T⟩:=qh4 hk R hO a8;have n0:(wr.alloc (.cells #[.int .u8 s,.int .u8 e] 225)).cell? ⟨wr.heap.size,0,none⟩=some (.int .u8 s):=(by simp);have N0:=qH n0;have az:ol<=552000:=(by omega);rw[E] at S ⊢;by_cases B:k=0
    · have dk:decide (0<k)=false:=qF (by omega)
      rw[dk,B] at O;have N:=qH O;have G:=HU.o.trans (sg (r:=⟨s,e⟩) (L:=LJ) (out:=out) (n:=n) (by rw[D.o];exact B));rw[K.o] at G;obtain⟨rfl,rfl⟩:X=2/\Y=[]:=by injection G with a b;exact⟨a,b⟩
      clear G B hO hU hdr an O hk hr hc a7 U Q M E R a8 n0 dk;go_wp2_with (go_at_call 256;(with_reducible refine qcb T N.o ?_);intro w3 F);go_ret2;exact⟨none,0,rfl,IsBys.nil _ _,qR,F.o⟩
    have dk:decide (0<k)=true:=q9T (by omega);rw[dk] at O;have N:=qH O;have av:s<19:=IP (e:=e) (by rw[hk];exact B);clear hO hU hdr an O hk hr hc a7 U Q M E R a8 n0 dk;by_cases I:s=16/\ol=0
    · obtain⟨I,hz⟩:=I
      have e1:((s:Int)==16)=true:=(by rw[AG];omega);have q2:((ol:Int)==0)=true:=(by rw[AG];omega);have G:=HU.o.trans (jK (r:=⟨s,e⟩) (L:=LJ) (out:=out) (n:=n) (by rw[D.o];exact B) I (DH.1 (by rw[u.o];exact hz)));rw[K.o] at G;obtain⟨rfl,rfl⟩:X=7/\Y=[]:=by injection G with a b;exact⟨a,b⟩
      clear G B I hz;go_wp2_with (go_at_call 256;(with_reducible refine N.o.mono ?_);rintro e w3 ⟨rfl,b3⟩;have r0:=(b3.cell (p:=⟨wr.heap.size,0,none⟩) (by simp)).trans N0.o;have F:=qbt T b3;clear b3);go_ret2;exact⟨none,0,rfl,IsBys.nil _ _,qR,F.o⟩
    have a4:=qH (show ¬((⟨s,e⟩:Rn).s=16/\out=[]) from λq=>I ⟨q.1,by rw[<-u.o,q.2];rfl⟩);have aa:s=16->0<ol:=λg=>by
     rcases Nat.eq_zero_or_pos ol with g2|g2
     · exact absurd ⟨g,g2⟩ I
     · exact g2
    obtain⟨vv,a5⟩:∃vv,vlr out ⟨s,0⟩=vv:=⟨_,rfl⟩
    have a9:vv<=15:=(by rw[<-a5];exact vl_le aj.o);have am:=qH (λ(w:World) (h:IsBys w A' ol out)=>lengthOf_any A' ol c' out s w h av aa (by omega));rw[a5] at am;have ar:=qH (show vlr out ⟨s,e⟩=vv from a5);have ap:=qH a9;clear aa a5 a9;by_cases a2:s=16
    · have e1:((s:Int)==16)=true:=by rw[AG];omega
      have hz:ol≠0:=λg=>I ⟨a2,g⟩
      have q2:((ol:Int)==0)=false:=(by rw[qN];omega);clear hz a2 I;by_cases l:n<ol+k
      · have d5:decide ((n:Int) - (ol:Int)<(k:Int))=true:=q9T (by omega)
        have G:=HU.o.trans (iI (r:=⟨s,e⟩) (L:=LJ) (out:=out) (n:=n) (by rw[D.o];exact B) a4.o (by rw[D.o,u.o];exact l));rw[K.o] at G;obtain⟨rfl,rfl⟩:X=7/\Y=[]:=by injection G with a b;exact⟨a,b⟩
        clear G l B;go_wp2_with (go_at_call 256;(with_reducible refine N.o.mono ?_);rintro e w3 ⟨rfl,b3⟩;have r0:=(b3.cell (p:=⟨wr.heap.size,0,none⟩) (by simp)).trans N0.o;have F:=qbt T b3;clear b3);go_ret2;exact⟨none,0,rfl,IsBys.nil _ _,qR,F.o⟩
      · have d5:decide ((n:Int) - (ol:Int)<(k:Int))=false:=qF (by omega)
        have ax:decide (n - ol<k)=false:=qF (by omega);have G:=HU.o.trans (ei (r:=⟨s,e⟩) (L:=LJ) (out:=out) (n:=n) (by rw[D.o];exact B) a4.o (by rw[D.o,u.o];exact l));rw[D.o,ar.o] at G;have a0:=qH G;have ah:=qH (show ol+k<=n/\k≠0/\ol+k<=138*(j+1) from by have:=P.o;omega);clear G l B
        go_wp2_with (first
         |(go_at_call 256;(with_reducible refine N.o.mono ?_);rintro e w3 ⟨rfl,b3⟩;have r0:=(b3.cell (p:=⟨wr.heap.size,0,none⟩) (by simp)).trans N0.o;have ab:=qH ((HO.o.alloc _).below b3);have al:=qH ((S.o.below ((Below.refl wr.heap.size wr).alloc qR _)).below b3);have F:=qbt T b3;clear b3)
         |(go_at_call 289;(with_reducible refine(am.o _ al.o).mono ?_);rintro e w4 ⟨rfl,af⟩;subst af))
        go_loopw [6,48] (λy z W=> ∃i:Nat,i<=k/\z=.int .i64 i/\Owb w.heap.size W y (out++List.replicate i vv)/\Below w.heap.size w W) (λ_ z _=>k - (intOf z).toNat)
        case atStart=>exact⟨0,qZ,rfl,by have:=ab.o;rw[u.o] at this;simpa using this,F.o⟩
        case round=>
         obtain⟨i,hi,rfl,a3,V⟩:=hrel;obtain⟨a1,J⟩:=qh2 a3 V;clear a3 V;by_cases ai:i<k
         · go_wp2_with (at_builtin;refine jF rfl (.tmp 50) (.tmp 52) rfl w.heap.size _ (out++List.replicate i vv) rfl (a1.o.alloc _) wr.heap.size 1 vv rfl (by simp) (by rw[qA,AP,u.o];have:=P.o;omega) (by have:=J.o.size;simp;omega) ?_;intro v' w' o' g' b';have ae:=qH o';have ag:=qH ((J.o.alloc J.o.size _).trans b');clear o' g' b')
           go_roundw
           case rel=>exact⟨i+1,by omega,by go_num,by rw[Dv,<-qD];exact ae.o,ag.o⟩
           case measure=>(simp[intOf];try omega)
         · obtain rfl:i=k:=by omega
           have HJ:=qH (show j+1<=m/\j+1<=100000 from by omega);have aw:j<=100000:=(by omega);clear ai;go_wp2_with fail;go_roundw
           case rel=>exact⟨j+1,out++List.replicate i vv,HJ.o.1,by go_num,a1.o,by rw[K.o] at a0 ⊢;rw[ao.o];exact a0.o,by intro x hx;rcases AH.1 hx with q|q;exact aj.o x q;(rw[(List.mem_replicate.1 q).2];exact ap.o),by rw[qA,AP,u.o];have:=ah.o;omega,J.o⟩
           case measure=>(have:=HJ.o.1;simp[intOf];try omega)
    · have e1:((s:Int)==16)=false:=by rw[qN];omega
      clear a2 I;by_cases l:n<ol+k
      · have d5:decide ((n:Int) - (ol:Int)<(k:Int))=true:=q9T (by omega)
        have G:=HU.o.trans (iI (r:=⟨s,e⟩) (L:=LJ) (out:=out) (n:=n) (by rw[D.o];exact B) a4.o (by rw[D.o,u.o];exact l));rw[K.o] at G;obtain⟨rfl,rfl⟩:X=7/\Y=[]:=by injection G with a b;exact⟨a,b⟩
        clear G l B;go_wp2_with (go_at_call 256;(with_reducible refine N.o.mono ?_);rintro e w3 ⟨rfl,b3⟩;have r0:=(b3.cell (p:=⟨wr.heap.size,0,none⟩) (by simp)).trans N0.o;have F:=qbt T b3;clear b3);go_ret2;exact⟨none,0,rfl,IsBys.nil _ _,qR,F.o⟩
      · have d5:decide ((n:Int) - (ol:Int)<(k:Int))=false:=qF (by omega)
        have ax:decide (n - ol<k)=false:=qF (by omega);have G:=HU.o.trans (ei (r:=⟨s,e⟩) (L:=LJ) (out:=out) (n:=n) (by rw[D.o];exact B) a4.o (by rw[D.o,u.o];exact l));rw[D.o,ar.o] at G;have a0:=qH G;have ah:=qH (show ol+k<=n/\k≠0/\ol+k<=138*(j+1) from by have:=P.o;omega);clear G l B
        go_wp2_with (first
         |(go_at_call 256;(with_reducible refine N.o.mono ?_);rintro e w3 ⟨rfl,b3⟩;have r0:=(b3.cell (p:=⟨wr.heap.size,0,none⟩) (by simp)).trans N0.o;have ab:=qH ((HO.o.alloc _).below b3);have al:=qH ((S.o.below ((Below.refl wr.heap.size wr).alloc qR _)).below b3);have F:=qbt T b3;clear b3)
         |(go_at_call 289;(with_reducible refine(am.o _ al.o).mono ?_);rintro e w4 ⟨rfl,af⟩;subst af))
        go_loopw [6,48] (λy z W=> ∃i:Nat,i<=k/\z=.int .i64 i/\Owb w.heap.size W y (out++List.replicate i vv)/\Below w.heap.size w W) (λ_ z _=>k - (intOf z).toNat)
        case atStart=>exact⟨0,qZ,rfl,by have:=ab.o;rw[u.o] at this;simpa using this,F.o⟩
        case round=>
         obtain⟨i,hi,rfl,a3,V⟩:=hrel;obtain⟨a1,J⟩:=qh2 a3 V;clear a3 V;by_cases ai:i<k
         · go_wp2_with (at_builtin;refine jF rfl (.tmp 50) (.tmp 52) rfl w.heap.size _ (out++List.replicate i vv) rfl (a1.o.alloc _) wr.heap.size 1 vv rfl (by simp) (by rw[qA,AP,u.o];have:=P.o;omega) (by have:=J.o.size;simp;omega) ?_;intro v' w' o' g' b';have ae:=qH o';have ag:=qH ((J.o.alloc J.o.size _).trans b');clear o' g' b')
           go_roundw
           case rel=>exact⟨i+1,by omega,by go_num,by rw[Dv,<-qD];exact ae.o,ag.o⟩
           case measure=>(simp[intOf];try omega)
         · obtain rfl:i=k:=by omega
           have HJ:=qH (show j+1<=m/\j+1<=100000 from by omega);have aw:j<=100000:=(by omega);clear ai;go_wp2_with fail;go_roundw
           case rel=>exact⟨j+1,out++List.replicate i vv,HJ.o.1,by go_num,a1.o,by rw[K.o] at a0 ⊢;rw[ao.o];exact a0.o,by intro x hx;rcases AH.1 hx with q|q;exact aj.o x q;(rw[(List.mem_replicate.1 q).2];exact ap.o),by rw[qA,AP,u.o];have:=ah.o;omega,J.o⟩
           case measure=>(have:=HJ.o.1;simp[intOf];try omega)
  · obtain rfl:j=m:=by omega
    rw[Dh (by rw[HL.o];exact qR)] at hU;have S:=qH R;by_cases C:ol<n
    · have ay:decide (ol<n)=true:=q9T C
      rw[ny (by rw[E];exact C),K.o] at hU;obtain⟨rfl,rfl⟩:X=7/\Y=[]:=by injection hU with a b;exact⟨a,b⟩
      rw[E];clear hO hU U M E R C;go_wp2_with fail;go_ret2;exact⟨none,0,rfl,IsBys.nil _ _,qR,aq.o⟩
    · have ay:decide (ol<n)=false:=qF C
      rw[iK (by rw[E];exact C),K.o] at hU;obtain⟨rfl,rfl⟩:X=0/\Y=out:=by injection hU with a b;exact⟨a,b⟩
      rw[E] at S ⊢;clear hO hU U M E R C;go_wp2_with fail;go_ret2;exact⟨_,_,by rw[u.o];rfl,by rw[u.o];exact S.o,by first|exact Z.o|(rw[u.o];exact Z.o)|(rw[<-u.o];exact Z.o),aq.o⟩
