/- Texts of one place, one behind the other: IfC, IfD, IfE, IfF, IfG. -/
import Derived.Test.YtdpabanajgegjaaGreatDoorEMIfY
import Derived.Test.YtdpabanajgegjaaGreatDoorESaE
import Derived.StillTailTactics
set_option maxRecDepth 1000000
set_option linter.unusedVariables false
set_option linter.unusedSimpArgs false
namespace Go.Proofs.YtdpabanajgegjaaGreatDoor.I
open Go Go.RowKit M
section
variable {s:ByteArray} {D L N:Nat} {x z:St} {l:Nat→Nat}
theorem runR_ok{y e:Nat}(h:runR l s D L x=.ok ((y,e),z))(hx:x.1≤8*s.size):y≤18∧e≤127∧x.1<z.1∧z.1≤8*s.size∧tms ⟨y,e⟩≠0:=by
 unfold runR at h;obtain⟨y',x1,h1,h2⟩:=bnd_ok h;obtain⟨e',x2,h3,h4⟩:=bnd_ok h2;have hin:=(Nice.bits (rbm y')).inn h3 ((Nice.nxt l 19).inn h1 hx);obtain⟨g1,g2,g3,g4,g5,rfl⟩:=nxt_ok h1 hx;cases h4
 obtain⟨k1,rfl⟩:=bits_lt h3 (2^rbm y) (Nat.le_refl _);have hm:∀y,y<19→(y<16→rbm y=0)∧(y=16→rbm y=2)∧(y=17→rbm y=3)∧(y=18→rbm y=7):=by decide
 obtain⟨m1,m2,m3,m4⟩:=hm y g2;have hc:y<16∨y=16∨y=17∨y=18:=by omega
 refine⟨by omega,?_,by simp only;omega,hin,?_⟩
 · rcases hc with q|q|q|q
   · rw[m1 q] at k1;omega
   · rw[m2 q] at k1;omega
   · rw[m3 q] at k1;omega
   · rw[m4 q] at k1;omega
 · rcases hc with q|q|q|q
   · rw[m1 q] at k1
     obtain rfl:e=0:=by omega
     rw[tms_lit q];decide
   · rw[m2 q] at k1;subst q;rw[tms_16 (by omega)];omega
   · rw[m3 q] at k1;subst q;rw[tms_17 (by omega)];omega
   · rw[m4 q] at k1;subst q;rw[tms_18 (by omega)];omega
theorem len1_er{all:List Nat}{c:Nat}(hN:¬N≤all.length)(h:runR l s D L x=.error c):len1 l N all s D L x=.error c:=by
 unfold len1;rw[if_neg hN];unfold runR at h;cases h1:nxt l 19 s D L x with
 |error d=>rw[bnd_er h1] at h ⊢;cases h;rfl
 |ok p=>
  rw[bnd_of h1] at h ⊢;cases h2:bits (rbm p.1) s D L p.2 with
  |error d=>rw[bnd_er h2] at h ⊢;cases h;rfl
  |ok p2=>rw[bnd_of h2] at h;cases h
theorem len1_ok{all:List Nat}{y e:Nat}(hN:¬N≤all.length)(h:runR l s D L x=.ok ((y,e),z)):len1 l N all s D L x=if(y=16∧all=[])∨N<all.length+tms ⟨y,e⟩ then .error 162 else .ok (.inl (all++List.replicate (tms ⟨y,e⟩) (vlr all ⟨y,e⟩)),z):=by
 unfold runR at h;obtain⟨y',x1,h1,h2⟩:=bnd_ok h;obtain⟨e',x2,h3,h4⟩:=bnd_ok h2;cases h4
 unfold len1;rw[if_neg hN,bnd_of h1,bnd_of h3]
 split<;>rfl
theorem len1_end{all:List Nat}(hN:N≤all.length):len1 l N all s D L x=.ok (.inr all,x):=by
 unfold len1;rw[if_pos hN];rfl
end
structure LS(w:World)(r B g q:Nat)(s:ByteArray)(D L N p:Nat)(l:Nat→Nat)(F:Except Nat (List Nat×St))(all:List Nat)(v:Value)(x:St)(wr:World):Prop where
 ex:∃r1,(r1=r∨w.heap.size≤r1)∧In wr B g q r1 s D L x∧Tb wr r1 p l 19
 kp:Kept (Ch g q r) w wr
 tb:TB B wr
 rs:∃Rs,U.Owr w.heap.size wr v Rs∧(Rs=[]→v=.slice none 0 0)∧(∀rest,unp N [] (Rs++rest)=unp N all rest)∧Rs.length≤all.length∧∀t∈Rs,t.s≤18∧t.e≤127
 le:all.length≤N
 fu:∃k,8*s.size - x.1<k∧loopR (len1 l N) k all s D L x=F
def LensV(w:World)(N:Nat)(all:List Nat)(e:Ending)(w':World):Prop:=∃A c,e=.returned (.slice A N c)∧all.length=N∧U.IsBys w' A N all∧N≤c
section
variable {w wr:World} {r B g q D L N p:Nat} {s:ByteArray} {x:St} {l:Nat→Nat} {F:Except Nat (List Nat×St)} {all:List Nat} {v:Value}
theorem LS.apart(h:LS w r B g q s D L N p l F all v x wr)(hg:g<w.heap.size)(hq:q<w.heap.size){Rs:List Rn}(ho:U.Owr w.heap.size wr v Rs){r1:Nat}(hI:In wr B g q r1 s D L x):∀j,v.ownBlock=some j→j≠g∧j≠q∧j≠r1:=fun j hj=>by
 obtain⟨h1,h2⟩:=ho.lt j hj;obtain⟨cs,h3⟩:=ho.ty j hj;obtain⟨c,fz,h4⟩:=hI.byt;exact⟨by omega,by omega,typ_ne h3 h4 (by decide)⟩
theorem LS.run(h:LS w r B g q s D L N p l F all v x wr)(hs:s.size≤100000)(hg:g<w.heap.size)(hq:q<w.heap.size):
 Calls Tryz.prog 166 #[.pointer (some ⟨g,0,none⟩),.pointer (some ⟨p,0,none⟩)] wr fun e w'=>
  match runR l s D L x with
  |.ok pp=>RunV pp.1 e w'∧(∃r1,(r1=r∨w.heap.size≤r1)∧In w' B g q r1 s D L pp.2∧Tb w' r1 p l 19)∧Kept (Ch g q r) w w'∧TB B w'∧∀Rs,U.Owr w.heap.size wr v Rs→U.Owr w.heap.size w' v Rs
  |.error c=>e=.panicked (flt c)∧Kept (Ch g q r) w w':=by
 obtain⟨r1,hr1,i1,t1⟩:=h.ex;have hk:=h.kp.size;refine(run_c i1 hs h.tb t1).mono fun e w' o=> ?_
 cases hn:runR l s D L x with
 |error c=>
  rw[hn] at o;exact⟨o.1,Kept.ch_trans h.kp o.2 hr1⟩
 |ok pp=>
  rw[hn] at o;obtain⟨o1,k2,r2,hr2,i2⟩:=o;refine⟨o1,⟨r2,?_,i2,Tb.go i1 t1 k2 hr2⟩,Kept.ch_trans h.kp k2 hr1,h.tb.go (i1.bl k2),fun Rs ho=>ho.at fun j hj=> ?_⟩
  · rcases hr2 with e|e
    · rw[e];exact hr1
    · exact .inr (by omega)
  · obtain⟨a1,a2,a3⟩:=h.apart hg hq ho i1 j hj
    exact k2.block j (ho.lt j hj).2 (fun e=>by rcases e with e|e|e;exact a1 e;exact a2 e;exact a3 e)
theorem In.runs(h:In wr B g q r s D L x){Rs:List Rn}{b0:Nat}(ho:U.Owr b0 wr v Rs)(h0:Rs=[]→v=.slice none 0 0)(hg:g<b0)(hq:q<b0){w':World}(hgr:wr.grownBy w' v.ownBlock):In w' B g q r s D L x∧(∀p' n' l',Tb wr r p' l' n'→Tb w' r p' l' n')∧Kept (fun j=>v.ownBlock=some j) wr w':=by
 have hk:Kept (fun j=>v.ownBlock=some j) wr w':=Kept.of_grown hgr;cases hv:v.ownBlock with
 |none=>
  have hk0:Kept NoB wr w':=hk.mono (fun j e=>by rw[hv] at e;cases e);refine⟨h.same hk0,fun p' n' l' t=>t.kept h.byt hk0 (fun _ e=>e.elim),by rw[←hv];exact hk⟩
 |some b=>
  obtain⟨h1,h2⟩:=ho.lt b hv;obtain⟨cs,h3⟩:=ho.ty b hv;obtain⟨c,fz,h4⟩:=h.byt;have hk1:Kept (fun j=>j=b) wr w':=hk.mono (fun j e=>by rw[hv] at e;cases e;rfl)
  have hnt:NoT wr b:=by
   cases hR:Rs with
   |nil=>rw[h0 hR] at hv;simp[Value.ownBlock] at hv
   |cons t T=>
    subst hR
    have hvs:∃n c,v=.slice (some ⟨b,0,none⟩) n c:=by
     rcases ho.2 with⟨rfl,_⟩|⟨g',cap,cur,rfl,_⟩
     · simp[Value.ownBlock] at hv
     · simp[Value.ownBlock] at hv;subst hv;exact⟨_,_,rfl⟩
    obtain⟨n',c',rfl⟩:=hvs;have k:=ho.cells (g:=b) rfl 0 (.int .u8 (t.s:Int)) (by simp[U.clr]);rw[U.nadd_at,Nat.zero_add] at k;exact⟨_,k,fun z=>⟨fun e=>(by cases e),fun e=>(by cases e)⟩⟩
  refine⟨h.other hk1 (by omega) (by omega) (typ_ne h3 h4 (by decide)) hnt,fun p' n' l' t=>t.keptN hk1 (fun j e=>by rw[e];exact hnt),by rw[←hv];exact hk⟩
end
end Go.Proofs.YtdpabanajgegjaaGreatDoor.I
namespace Go.Proofs.YtdpabanajgegjaaGreatDoor.I
open Go.Lib (hid)
open Go Go.RowKit M
section
variable {w:World} {B g q r D L p:Nat} {s:ByteArray} {x:St} {l:Nat→Nat}
theorem LS.grow{w w1 w3 w4:World}{r B g q D L N p:Nat}{s:ByteArray}{x1:St}{l:Nat→Nat}{F:Except Nat (List Nat×St)}{all2:List Nat}{v v':Value}{Rs:List Rn}{t:Rn}(hBg:B≤g)(hg:g<w.heap.size)(hq:q<w.heap.size)
 (Q1:∃r1,(r1=r∨w.heap.size≤r1)∧In w1 B g q r1 s D L x1∧Tb w1 r1 p l 19) (Q2:Kept (Ch g q r) w w1) (Q3:TB B w1) (hO:U.Owr w.heap.size w1 v Rs) (hO0:Rs=[]→v=.slice none 0 0) (hb:Below w1.heap.size w1 w3)
 (hO':U.Owr w.heap.size w4 v' (Rs++[t])) (hgr:w3.grownBy w4 v.ownBlock) (hu:∀rest,unp N [] ((Rs++[t])++rest)=unp N all2 rest) (hl:(Rs++[t]).length≤all2.length) (hok:∀t'∈Rs++[t],t'.s≤18∧t'.e≤127) (hle:all2.length≤N)
 (hfu:∃k,8*s.size - x1.1<k∧loopR (len1 l N) k all2 s D L x1=F):LS w r B g q s D L N p l F all2 v' x1 w4:=by
 obtain⟨r1,hr1,i1,t1⟩:=Q1;have hs:=Q2.size;obtain⟨i4,ht4,hk4⟩:=(i1.below hb).runs (hO.below hb) hO0 hg hq hgr;have hbB:Below B w1 w4:=(hb.mono (by omega)).trans (hk4.below (by have:=hb.size;omega) (fun j e=>by have:=(hO.lt j e).1;omega));refine⟨⟨r1,hr1,i4,ht4 _ _ _ (t1.kept i1.byt (Kept.of_below hb) (fun _ e=>e.elim))⟩,(Q2.trans (Kept.of_below hb) (fun _ e=>e.elim)).trans hk4 (fun j e=> .inr (hO.lt j e).1),Q3.go hbB,⟨Rs++[t],hO',fun e=>absurd e (by simp),hu,hl,hok⟩,hle,hfu⟩
theorem U_tab{W:World}(h:TB B W):U.Tab W:=h.here.1
set_option maxHeartbeats 4000000 in
theorem lens_c(h:In w B g q r s D L x)(hs:s.size≤100000)(ht:TB B w)(tt:Tb w r p l 19)(N K:Nat)(hN:N≤400)(hK:8*s.size - x.1<K):
 Calls Tryz.prog 132 #[.pointer (some ⟨g,0,none⟩),.pointer (some ⟨p,0,none⟩),.int .i64 N] w (Out w B g q r s D L (loopR (len1 l N) K [] s D L x) fun all e w'=>LensV w N all e w'):=by
 obtain⟨F,hF⟩:∃F,loopR (len1 l N) K [] s D L x=F:=⟨_,rfl⟩
 rw[hF];have hL0:LS w r B g q s D L N p l F [] (.slice none 0 0) x w:=⟨⟨r,.inl rfl,h,tt⟩,Kept.refl _ _,ht,⟨[],U.Owr.nil _ _,fun _=>rfl,fun _=>rfl,Nat.le_refl _,fun _ h=>absurd h (by simp)⟩,Nat.zero_le _,K,hK,hF⟩;have hg:=h.glt;have hq:=h.rd.lt;have HL0:=hid hL0;clear h ht tt hF hL0;go_enter Tryz.func132,Tryz.ntmps132;go_wp2_with fail
 go_loopw [7,8] (fun v i wr=> ∃ (all:List Nat) (x':St),i=.int .i64 all.length∧LS w r B g q s D L N p l F all v x' wr) (fun _ i _=>N - (intOf i).toNat)
 case atStart=>exact⟨[],x,rfl,HL0.out⟩
 case round=>
  obtain⟨all,x',rfl,hS⟩:=hrel;clear HL0;have hBg:B≤g:=by obtain⟨r1,_,i1,_⟩:=hS.ex;exact i1.gb
  obtain⟨n,hn⟩:∃n,all.length=n:=⟨_,rfl⟩
  rw[hn];have hnN:n≤N:=by have:=hS.le;omega
  obtain⟨k,hk,hFk⟩:=hS.fu;obtain⟨k,rfl⟩:∃j,k=j+1:=⟨k - 1,by omega⟩
  have hxl:x'.1≤8*s.size:=by obtain⟨r1,_,i1,_⟩:=hS.ex;exact i1.rd.le
  have HS:=hid hS;by_cases hlt:n<N
  · have hRun:=hS.run hs hg hq
    cases hr:runR l s D L x' with
    |error c=>
     have hFc:F=.error c:=by rw[←hFk];exact loop_no (len1_er (by omega) hr)
     subst hFc;simp only[hr] at hRun;have HRun:=hid hRun;clear hRun hr hFk hk hS hn;go_wp2_with (go_at_call 166;(with_reducible refine HRun.out.mono ?_);rintro e w1 ⟨rfl,k1⟩;have K1:=hid k1;clear k1);exact⟨rfl,rfl,K1.out⟩
    |ok pp=>
     obtain⟨⟨y,e⟩,x1⟩:=pp;simp only[hr] at hRun;obtain⟨hy,he,hx1,hx1l,htm⟩:=runR_ok hr hxl;have hlen:=len1_ok (all:=all) (by omega:¬N≤all.length) hr;have HT:=hid (fun(W:World) (hT:U.Tab W)=>U.times_any y e W hT (by omega) (by omega));obtain⟨T,hT⟩:∃T,tms ⟨y,e⟩=T:=⟨_,rfl⟩
     have hT138:T≤138:=by rw[←hT];exact tms_le _
     rw[hT] at HT hlen htm;obtain⟨bt,hbt⟩:∃bt,decide (0<T)=bt:=⟨_,rfl⟩
     rw[hbt] at HT;have HRun:=hid (show Calls Tryz.prog 166 #[.pointer (some ⟨g,0,none⟩),.pointer (some ⟨p,0,none⟩)] wr fun e' w'=>e'=.returned (.agg #[.int .u8 (y:Nat),.int .u8 (e:Nat)])∧(∃r1,(r1=r∨w.heap.size≤r1)∧In w' B g q r1 s D L x1∧Tb w' r1 p l 19)∧Kept (Ch g q r) w w'∧TB B w'∧∀Rs,U.Owr w.heap.size wr u7 Rs→U.Owr w.heap.size w' u7 Rs from hRun);clear hRun hr hbt hS;obtain⟨m,hm⟩:∃m,N - n=m:=⟨_,rfl⟩
     have hsub:(N:Int) - (n:Int)=(m:Int):=by omega
     by_cases hbad:(y=16∧all=[])∨N<all.length+T
     · rw[if_pos hbad] at hlen
       have hFc:F=.error 162:=by rw[←hFk];exact loop_no hlen
       subst hFc;clear hlen hFk hk;have hall:all=[]↔n=0:=by rw[←hn];exact⟨fun e=>by rw[e];rfl,fun e=>List.length_eq_zero_iff.1 e⟩
       have hbad':(y=16∧n=0)∨m<T:=by rcases hbad with⟨a,b⟩|b;exact .inl ⟨a,hall.1 b⟩;exact .inr (by omega)
       clear hbad hall hn hT;by_cases hy16:y=16
       · have e1:((y:Int)==16)=true:=by rw[beq_iff_eq];omega
         have e2:(y==16)=true:=by rw[beq_iff_eq];exact hy16
         clear hy16;by_cases hn0:n=0
         · subst hn0
           clear hbad' htm
           go_wp2_with (first
            |(go_at_call 166;(with_reducible refine HRun.out.mono ?_);rintro e' w1 ⟨rfl,q1,q2,q3,q4⟩;have Q1:=hid q1;have Q2:=hid q2;have Q3:=hid q3;have Q4:=hid q4;have hTb:=U_tab q3;have HTb:=hid hTb;clear q1 q2 q3 q4 hTb)
            |(go_at_call 167;(with_reducible refine(HT.out _ (U.Tab.below HTb.out ((Below.refl _ _).alloc (Nat.le_refl _) _) (Nat.le_refl _))).mono ?_);rintro e' w2 ⟨rfl,b2⟩;have hx9:=heap_alloc_new w1 (.cells #[.int .u8 (y:Nat),.int .u8 (e:Nat)] 134);have hy9:=(b2.block w1.heap.size (by simp)).trans hx9;have f20:=(two_at hy9).1;have f21:=(two_at hy9).2.1;clear hx9 hy9;have B2:=hid b2;clear b2)
            |(go_at_call 92;(with_reducible refine(fail_162 _).mono ?_);rintro e' w3 ⟨rfl,k3⟩;have K3:=hid k3;clear k3))
           exact⟨rfl,rfl,((Q2.out.alloc _).trans (Kept.of_below B2.out) (fun _ e=>e.elim)).trans K3.out (fun _ e=>e.elim)⟩
         · have hmT:m<T:=hbad'.resolve_left (fun q=>hn0 q.2)
           have d1:((n:Int)==0)=false:=by rw[beq_eq_false_iff_ne];omega
           have d2:(n==0)=false:=by rw[beq_eq_false_iff_ne];exact hn0
           have d3:decide ((m:Int)<(T:Int))=true:=decide_eq_true (by omega);have d4:decide (m<T)=true:=decide_eq_true hmT;clear hbad' htm hn0 hmT
           go_wp2_with (first
            |(go_at_call 166;(with_reducible refine HRun.out.mono ?_);rintro e' w1 ⟨rfl,q1,q2,q3,q4⟩;have Q1:=hid q1;have Q2:=hid q2;have Q3:=hid q3;have Q4:=hid q4;have hTb:=U_tab q3;have HTb:=hid hTb;clear q1 q2 q3 q4 hTb)
            |(go_at_call 167;(with_reducible refine(HT.out _ (U.Tab.below HTb.out ((Below.refl _ _).alloc (Nat.le_refl _) _) (Nat.le_refl _))).mono ?_);rintro e' w2 ⟨rfl,b2⟩;have hx9:=heap_alloc_new w1 (.cells #[.int .u8 (y:Nat),.int .u8 (e:Nat)] 134);have hy9:=(b2.block w1.heap.size (by simp)).trans hx9;have f20:=(two_at hy9).1;have f21:=(two_at hy9).2.1;clear hx9 hy9;have B2:=hid b2;clear b2)
            |(go_at_call 92;(with_reducible refine(fail_162 _).mono ?_);rintro e' w3 ⟨rfl,k3⟩;have K3:=hid k3;clear k3))
           exact⟨rfl,rfl,((Q2.out.alloc _).trans (Kept.of_below B2.out) (fun _ e=>e.elim)).trans K3.out (fun _ e=>e.elim)⟩
       · have hmT:m<T:=hbad'.resolve_left (fun q=>hy16 q.1)
         have d1:((y:Int)==16)=false:=by rw[beq_eq_false_iff_ne];omega
         have d2:(y==16)=false:=by rw[beq_eq_false_iff_ne];exact hy16
         have d3:decide ((m:Int)<(T:Int))=true:=decide_eq_true (by omega);have d4:decide (m<T)=true:=decide_eq_true hmT;clear hbad' htm hy16 hmT
         go_wp2_with (first
          |(go_at_call 166;(with_reducible refine HRun.out.mono ?_);rintro e' w1 ⟨rfl,q1,q2,q3,q4⟩;have Q1:=hid q1;have Q2:=hid q2;have Q3:=hid q3;have Q4:=hid q4;have hTb:=U_tab q3;have HTb:=hid hTb;clear q1 q2 q3 q4 hTb)
          |(go_at_call 167;(with_reducible refine(HT.out _ (U.Tab.below HTb.out ((Below.refl _ _).alloc (Nat.le_refl _) _) (Nat.le_refl _))).mono ?_);rintro e' w2 ⟨rfl,b2⟩;have hx9:=heap_alloc_new w1 (.cells #[.int .u8 (y:Nat),.int .u8 (e:Nat)] 134);have hy9:=(b2.block w1.heap.size (by simp)).trans hx9;have f20:=(two_at hy9).1;have f21:=(two_at hy9).2.1;clear hx9 hy9;have B2:=hid b2;clear b2)
          |(go_at_call 92;(with_reducible refine(fail_162 _).mono ?_);rintro e' w3 ⟨rfl,k3⟩;have K3:=hid k3;clear k3))
         exact⟨rfl,rfl,((Q2.out.alloc _).trans (Kept.of_below B2.out) (fun _ e=>e.elim)).trans K3.out (fun _ e=>e.elim)⟩
     · rw[if_neg hbad] at hlen
       have hgo:=(loop_go (k:=k) hlen).symm.trans hFk;have hall:all=[]↔n=0:=by rw[←hn];exact⟨fun e=>by rw[e];rfl,fun e=>List.length_eq_zero_iff.1 e⟩
       have hok1:¬(y=16∧n=0):=fun q=>hbad (.inl ⟨q.1,hall.2 q.2⟩)
       have hok2:¬m<T:=fun q=>hbad (.inr (by omega))
       obtain⟨Rs,ho,ho0,hu,hrl,hro⟩:=HS.out.rs;have hrl2:Rs.length≤400:=by omega
       have huS:∀rest,unp N [] ((Rs++[⟨y,e⟩])++rest)=unp N (all++List.replicate T (vlr all ⟨y,e⟩)) rest:=fun rest=>by
        rw[List.append_assoc,hu ([(⟨y,e⟩:Rn)]++rest)];have:=unp_go (n:=N) (out:=all) (r:=⟨y,e⟩) (L:=rest) (by rw[hT];exact htm) (fun q=>hbad (.inl q)) (by rw[hT];omega);rw[hT] at this;exact this
       have hn2:(all++List.replicate T (vlr all ⟨y,e⟩)).length=n+T:=by rw[List.length_append,List.length_replicate,hn]
       obtain⟨all2,hall2⟩:∃a,all++List.replicate T (vlr all ⟨y,e⟩)=a:=⟨_,rfl⟩
       rw[hall2] at hgo huS hn2;have HGo:=hid hgo;have HU:=hid huS;have HN2:=hid hn2;have HO:=hid ho;have HO0:=hid ho0;have HRo:=hid hro;have HRl:=hid hrl;have HHn:=hid hn;have hkk:8*s.size - x1.1<k:=by omega
       have hn2':n+T≤N:=by omega
       obtain⟨n3,hn3⟩:∃n3,n+T=n3:=⟨_,rfl⟩
       have hadd:(n:Int)+(T:Int)=(n3:Int):=by omega
       clear hlen hFk hk hbad hall ho ho0 hu hrl hro hgo huS hn2 hall2 hn hT hx1 hx1l;have hd3:decide ((m:Int)<(T:Int))=false:=decide_eq_false (by omega);have hd4:decide (m<T)=false:=decide_eq_false hok2;by_cases hy16:y=16
       · have hn0:¬n=0:=fun q=>hok1 ⟨hy16,q⟩
         have e1:((y:Int)==16)=true:=by rw[beq_iff_eq];omega
         have e2:(y==16)=true:=by rw[beq_iff_eq];exact hy16
         have d1:((n:Int)==0)=false:=by rw[beq_eq_false_iff_ne];omega
         have d2:(n==0)=false:=by rw[beq_eq_false_iff_ne];exact hn0
         clear hy16 hok1 hok2 hn0
         go_wp2_with (first
          |(go_at_call 166;(with_reducible refine HRun.out.mono ?_);rintro e' w1 ⟨rfl,q1,q2,q3,q4⟩;have Q1:=hid q1;have Q2:=hid q2;have Q3:=hid q3;have Q4:=hid q4;have hTb:=U_tab q3;have HTb:=hid hTb;clear q1 q2 q3 q4 hTb)
          |(go_at_call 167;(with_reducible refine(HT.out _ (U.Tab.below HTb.out ((Below.refl _ _).alloc (Nat.le_refl _) _) (Nat.le_refl _))).mono ?_);rintro e' w2 ⟨rfl,b2⟩;have hx9:=heap_alloc_new w1 (.cells #[.int .u8 (y:Nat),.int .u8 (e:Nat)] 134);have hy9:=(b2.block w1.heap.size (by simp)).trans hx9;have f20:=(two_at hy9).1;have f21:=(two_at hy9).2.1;have hb12:=((Below.refl w1.heap.size w1).alloc (Nat.le_refl _) _).trans (b2.mono (by simp));have HB3:=hid (hb12.alloc hb12.size (.cells #[.int .u8 (y:Nat),.int .u8 (e:Nat)] 134));have hsw2:=Nat.le_trans Q2.out.size hb12.size;clear hx9 hy9 hb12;have B2:=hid b2;clear b2)
          |(at_builtin;refine U.wpList_ar rfl (.tmp 40) (.tmp 42) rfl w.heap.size u7 Rs rfl ((Q4.out Rs HO.out).below HB3.out) w2.heap.size 1 y e rfl ⟨by simp,by simp⟩ (by omega) (by simp;omega) ?_;intro v9 w4 g1 g2 g3;have HL9:=hid (LS.grow (N:=N) (F:=F) (all2:=all2) hBg hg hq Q1.out Q2.out Q3.out (Q4.out Rs HO.out) HO0.out HB3.out g1 g2 HU.out (by rw[List.length_append,HN2.out];have:=HRl.out;rw[HHn.out] at this;simp only[List.length_singleton];omega) (fun t9 h9=>by rcases List.mem_append.1 h9 with q9|q9;exact HRo.out t9 q9;obtain rfl:=List.mem_singleton.1 q9;exact⟨hy,he⟩) (by rw[HN2.out];omega) ⟨k,hkk,HGo.out⟩);clear g1 g2 g3))
         go_roundw
         case rel=>exact⟨all2,x1,by rw[HN2.out,hn3],HL9.out⟩
         case measure=>simp[intOf];omega
       · skip
         have e1:((y:Int)==16)=false:=by rw[beq_eq_false_iff_ne];omega
         have e2:(y==16)=false:=by rw[beq_eq_false_iff_ne];exact hy16
         clear hy16 hok1 hok2
         go_wp2_with (first
          |(go_at_call 166;(with_reducible refine HRun.out.mono ?_);rintro e' w1 ⟨rfl,q1,q2,q3,q4⟩;have Q1:=hid q1;have Q2:=hid q2;have Q3:=hid q3;have Q4:=hid q4;have hTb:=U_tab q3;have HTb:=hid hTb;clear q1 q2 q3 q4 hTb)
          |(go_at_call 167;(with_reducible refine(HT.out _ (U.Tab.below HTb.out ((Below.refl _ _).alloc (Nat.le_refl _) _) (Nat.le_refl _))).mono ?_);rintro e' w2 ⟨rfl,b2⟩;have hx9:=heap_alloc_new w1 (.cells #[.int .u8 (y:Nat),.int .u8 (e:Nat)] 134);have hy9:=(b2.block w1.heap.size (by simp)).trans hx9;have f20:=(two_at hy9).1;have f21:=(two_at hy9).2.1;have hb12:=((Below.refl w1.heap.size w1).alloc (Nat.le_refl _) _).trans (b2.mono (by simp));have HB3:=hid (hb12.alloc hb12.size (.cells #[.int .u8 (y:Nat),.int .u8 (e:Nat)] 134));have hsw2:=Nat.le_trans Q2.out.size hb12.size;clear hx9 hy9 hb12;have B2:=hid b2;clear b2)
          |(at_builtin;refine U.wpList_ar rfl (.tmp 40) (.tmp 42) rfl w.heap.size u7 Rs rfl ((Q4.out Rs HO.out).below HB3.out) w2.heap.size 1 y e rfl ⟨by simp,by simp⟩ (by omega) (by simp;omega) ?_;intro v9 w4 g1 g2 g3;have HL9:=hid (LS.grow (N:=N) (F:=F) (all2:=all2) hBg hg hq Q1.out Q2.out Q3.out (Q4.out Rs HO.out) HO0.out HB3.out g1 g2 HU.out (by rw[List.length_append,HN2.out];have:=HRl.out;rw[HHn.out] at this;simp only[List.length_singleton];omega) (fun t9 h9=>by rcases List.mem_append.1 h9 with q9|q9;exact HRo.out t9 q9;obtain rfl:=List.mem_singleton.1 q9;exact⟨hy,he⟩) (by rw[HN2.out];omega) ⟨k,hkk,HGo.out⟩);clear g1 g2 g3))
         go_roundw
         case rel=>exact⟨all2,x1,by rw[HN2.out,hn3],HL9.out⟩
         case measure=>simp[intOf];omega
  · obtain rfl:n=N:=by omega
    have hFe:F=.ok (all,x'):=by rw[←hFk];exact loop_end (len1_end (by omega))
    subst hFe;obtain⟨Rs,ho,ho0,hu,hrl,hro⟩:=hS.rs;obtain⟨A,c,hv,hI⟩:=ho.rns (fun t h9=>by have:=hro t h9;omega) (by unfold maxLen;omega);subst hv
    have hup:unp n [] Rs=(0,all):=by
     have:=hu [];rw[List.append_nil] at this;rw[this,unp_end (by omega)]
    have hU:=U.unpack_any A Rs.length c Rs n wr (U_tab hS.tb) hI (by omega) (by omega);rw[hup] at hU;unfold U.UnC at hU;rw[hn] at hU;obtain⟨r1,hr1,i1,t1⟩:=hS.ex;have HU:=hid hU;have HI1:=hid i1;have HR1:=hid hr1;have HKp:=hid hS.kp;have HHn:=hid hn;clear hFk hk hu hrl hro ho ho0 hI hup hU i1 t1 hr1 hS hn;go_wp2_with (go_at_call 168;(with_reducible refine HU.out.mono ?_);rintro e' w1 ⟨A',c',rfl,y1,y2,y3⟩;have Y1:=hid y1;have Y2:=hid y2;have Y3:=hid y3;clear y1 y2 y3);go_ret;exact⟨⟨A',c',rfl,HHn.out,Y1.out,Y2.out⟩,HKp.out.trans (Kept.of_below Y3.out) (fun _ e=>e.elim),r1,HR1.out,HI1.out.below Y3.out⟩
end
theorem dyn_eq(K:Nat)(s:ByteArray)(D L:Nat)(x:St):dyn K s D L x=bnd (bits 5) (fun a=>bnd (bits 5) fun b=>bnd (bits 4) fun k=>if 286<a+257∨30<b+1 then fl 162 else bnd (ltR (k+4)) fun o=>bnd (loopR (len1 o (a+257+(b+1))) K []) fun all=>tabR all (a+257) (b+1)) s D L x:=by
 unfold dyn;congr 1;funext a;congr 1;funext b;congr 1;funext k
 split
 · rfl
 · funext s D L x
   unfold ltR;cases h1:ownR (k+4) 0 (fun _=>0) s D L x with
   |error e=>rw[bnd_er h1,bnd_er (bnd_er h1)]
   |ok p=>
    rw[bnd_of h1];by_cases h2:kind p.1 19≠2
    · rw[if_pos h2,bnd_er (e:=162) (by rw[bnd_of h1,if_pos h2];rfl)]
      rfl
    · rw[if_neg h2,bnd_of (a:=p.1) (y:=p.2) (by rw[bnd_of h1,if_neg h2];rfl)]
def TwoP(w:World)(B g q r:Nat)(s:ByteArray)(D L:Nat)(l:Nat→Nat)(n:Nat)(d:Nat→Nat)(m:Nat)(y:St)(e:Ending)(w':World):Prop:=
 ∃p1 p2 r',e=.returned (.agg #[.pointer (some ⟨p1,0,none⟩),.pointer (some ⟨p2,0,none⟩)])∧Kept (Ch g q r) w w'∧(r'=r∨w.heap.size≤r')∧In w' B g q r' s D L y∧Tb w' r' p1 l n∧Tb w' r' p2 d m
theorem bys_nums{w:World}{b o N:Nat}{all:List Nat}(h:U.IsBys w (some ⟨b,o,none⟩) N all)(i n:Nat)(hn:i+n≤N):Nums w .u8 (some ⟨b,o+i,none⟩) n (fun j=>((all.getD (i+j) 0:Nat):Int)):=fun h0=>by
 obtain⟨b',o',e,h1,h2⟩:=h.at (by omega);injection e with e
 injection e with e1 e2
 subst e1;subst e2;exact⟨b,o+i,rfl,h1,fun j hj=>by have:=h2 (i+j) (by omega);rw[←Nat.add_assoc] at this;exact this⟩
section
variable {w0 w:World} {B g q r D L:Nat} {s:ByteArray} {x:St}
theorem Res.lt(h:Res w0 B g q r s D L x w)(hs:s.size≤100000)(k:Nat)(hk:k≤19):
 Calls Tryz.prog 133 #[.pointer (some ⟨g,0,none⟩),.int .i64 k] w fun e w'=>
  match ltR k s D L x with
  |.ok p=>TabP w0 B g q r s D L p e w'
  |.error c=>e=.panicked (flt c)∧Kept (Ch g q r) w0 w':=by
 obtain⟨kk,r1,hr1,i1⟩:=h;refine(lensTable_c i1 hs k hk).mono fun e w' o=> ?_
 have hss:=kk.size;cases hl:ltR k s D L x with
 |error c=>rw[hl] at o;exact⟨o.1,Kept.ch_trans kk o.2 hr1⟩
 |ok p=>
  rw[hl] at o;obtain⟨t,r2,e1,k2,hr2,i2,t2⟩:=o;refine⟨t,r2,e1,Kept.ch_trans kk k2 hr1,?_,i2,t2⟩;rcases hr2 with e|e
  · rw[e];exact hr1
  · exact .inr (by omega)
theorem lens_o{r1 p:Nat}{o:Nat→Nat}(hk:Kept (Ch g q r) w0 w)(hr1:r1=r∨w0.heap.size≤r1)(i1:In w B g q r1 s D L x)(t1:Tb w r1 p o 19)(hs:s.size≤100000)(ht:TB B w)(N K:Nat)(hN:N≤400)(hK:8*s.size - x.1<K):
 Calls Tryz.prog 132 #[.pointer (some ⟨g,0,none⟩),.pointer (some ⟨p,0,none⟩),.int .i64 N] w (Out w0 B g q r s D L (loopR (len1 o N) K [] s D L x) fun all e w'=>LensV w N all e w'):=by
 refine(lens_c i1 hs ht t1 N K hN hK).mono fun e w' o'=> ?_
 cases hl:loopR (len1 o N) K [] s D L x with
 |error c=>rw[hl] at o';exact⟨o'.1,Kept.ch_trans hk o'.2 hr1⟩
 |ok p=>rw[hl] at o';exact⟨o'.1,Res.trans (y:=x) hk hr1 o'.2⟩
set_option maxHeartbeats 4000000 in
theorem dynamic_c(h:In w B g q r s D L x)(hs:s.size≤100000)(ht:TB B w)(K:Nat)(hK:8*s.size - x.1<K):
 Calls Tryz.prog 90 #[.pointer (some ⟨g,0,none⟩)] w fun e w'=>
  match dyn K s D L x with
  |.ok p=>TwoP w B g q r s D L (lit p.1.1) p.1.2.1 (dis p.1.1 p.1.2.1) p.1.2.2 p.2 e w'
  |.error c=>e=.panicked (flt c)∧Kept (Ch g q r) w w':=by
 obtain⟨R,hR⟩:∃R,dyn K s D L x=R:=⟨_,rfl⟩
 rw[hR];rw[dyn_eq] at hR;have hkA:Kept NoB w (w.alloc (.cells #[.pointer none,.pointer none] 105)):=(Kept.refl _ _).alloc _;have hnew:(w.alloc (.cells #[.pointer none,.pointer none] 105)).heap[w.heap.size]? =some (.cells #[.pointer none,.pointer none] 105 (0,0)):=heap_alloc_new _ _;have hsz:(w.alloc (.cells #[.pointer none,.pointer none] 105)).heap.size=w.heap.size+1:=by simp
 obtain⟨w0,hw0⟩:∃w0,w.alloc (.cells #[.pointer none,.pointer none] 105)=w0:=⟨_,rfl⟩
 rw[hw0] at hkA hnew hsz;obtain⟨b,hb⟩:∃b,w.heap.size=b:=⟨_,rfl⟩
 rw[hb] at hnew hsz;have hgb:g<b:=by have:=h.glt;omega
 have hqb:q<b:=by have:=h.rd.lt;omega
 have hrb:r<b:=by have:=h.rlt;omega
 have i0:=h.same hkA;have htb0:TB B w0:=ht.go (h.bl (hkA.none _));have HS0:=hid i0.start;have HTb:=hid (fun(W:World) (k:Kept (Ch g q r) w0 W)=>(show TB B W from htb0.go (i0.bl k)))
 have HF:=hid (fun(W:World) (k:Kept (Ch g q r) w0 W)=>(show W.heap[b]? =some (.cells #[.pointer none,.pointer none] 105 (0,0)) from
  (k.block b (by omega) (fun e=>by rcases e with e|e|e<;>omega)).trans hnew))
 have HE:=hid (fun(W:World) (k:Kept (Ch g q r) w0 W)=>(show Kept (Ch g q r) w W from(hkA.none _).trans k (fun _ e=> .inl e)));have HxK:=hid (fun(y:Nat) (hy:x.1≤y)=>(show 8*s.size - y<K from by omega));clear h ht hkA hnew i0 htb0;cases h1:bits 5 s D L x with
 |error c=>
  rw[bnd_er h1] at hR;subst hR
  have HB1:=hid (fun(W:World) (o:Res w0 B g q r s D L x W)=>(show Calls Tryz.prog 87 #[.pointer (some ⟨g,0,none⟩),.int .i64 5] W fun e w'=>e=.panicked (flt c)∧Kept (Ch g q r) w0 w' from by
   have:=o.lift (fun r i=>bits_5 i hs);rw[h1] at this;exact this))
  clear h1;go_enter Tryz.func90,Tryz.ntmps90
  go_wp2_with (first
   |(go_at_call 87;(with_reducible refine(HB1.out _ HS0.out).mono ?_);rintro e w1 ⟨rfl,k1⟩;have K1:=hid k1;clear k1))
  exact⟨rfl,rfl,HE.out _ K1.out⟩
 |ok pp=>
  obtain⟨a,x1⟩:=pp;rw[bnd_of h1] at hR;obtain⟨hn1,hx1⟩:=bits_lt h1 32 (by decide);have hm1:x.1≤x1.1:=by rw[hx1];simp only;omega
  have HB1:=hid (fun(W:World) (o:Res w0 B g q r s D L x W)=>(show Calls Tryz.prog 87 #[.pointer (some ⟨g,0,none⟩),.int .i64 5] W fun e w'=>e=.returned (.int .i64 a)∧Res w0 B g q r s D L x1 w' from by
   have:=o.lift (fun r i=>bits_5 i hs);rw[h1] at this;exact this))
  clear h1 hx1;cases h2:bits 5 s D L x1 with
  |error c=>
   rw[bnd_er h2] at hR;subst hR;have HB2:=hid (fun(W:World) (o:Res w0 B g q r s D L x1 W)=>(show Calls Tryz.prog 87 #[.pointer (some ⟨g,0,none⟩),.int .i64 5] W fun e w'=>e=.panicked (flt c)∧Kept (Ch g q r) w0 w' from by
   have:=o.lift (fun r i=>bits_5 i hs);rw[h2] at this;exact this))
   clear h2;go_enter Tryz.func90,Tryz.ntmps90
   go_wp2_with (first
    |(go_at_call 87;(with_reducible refine(HB1.out _ HS0.out).mono ?_);rintro e w1 ⟨rfl,o1⟩;have O1:=hid o1;clear o1)
    |(go_at_call 87;(with_reducible refine(HB2.out _ O1.out).mono ?_);rintro e w2 ⟨rfl,k2⟩;have K2:=hid k2;clear k2))
   exact⟨rfl,rfl,HE.out _ K2.out⟩
  |ok pp=>
   obtain⟨bd,x2⟩:=pp;rw[bnd_of h2] at hR;obtain⟨hn2,hx2⟩:=bits_lt h2 32 (by decide);have hm2:x1.1≤x2.1:=by rw[hx2];simp only;omega
   have HB2:=hid (fun(W:World) (o:Res w0 B g q r s D L x1 W)=>(show Calls Tryz.prog 87 #[.pointer (some ⟨g,0,none⟩),.int .i64 5] W fun e w'=>e=.returned (.int .i64 bd)∧Res w0 B g q r s D L x2 w' from by
   have:=o.lift (fun r i=>bits_5 i hs);rw[h2] at this;exact this))
   clear h2 hx2;cases h3:bits 4 s D L x2 with
   |error c=>
    rw[bnd_er h3] at hR;subst hR;have HB3:=hid (fun(W:World) (o:Res w0 B g q r s D L x2 W)=>(show Calls Tryz.prog 87 #[.pointer (some ⟨g,0,none⟩),.int .i64 4] W fun e w'=>e=.panicked (flt c)∧Kept (Ch g q r) w0 w' from by
   have:=o.lift (fun r i=>bits_4 i hs);rw[h3] at this
   exact this))
    clear h3;go_enter Tryz.func90,Tryz.ntmps90
    go_wp2_with (first
     |(go_at_call 87;(with_reducible refine(HB1.out _ HS0.out).mono ?_);rintro e w1 ⟨rfl,o1⟩;have O1:=hid o1;clear o1)
     |(go_at_call 87;(with_reducible refine(HB2.out _ O1.out).mono ?_);rintro e w2 ⟨rfl,o2⟩;have O2:=hid o2;clear o2)
     |(go_at_call 87;(with_reducible refine(HB3.out _ O2.out).mono ?_);rintro e w3 ⟨rfl,k3⟩;have K3:=hid k3;clear k3))
    exact⟨rfl,rfl,HE.out _ K3.out⟩
   |ok pp=>
    obtain⟨k,x3⟩:=pp;rw[bnd_of h3] at hR;obtain⟨hn3,hx3⟩:=bits_lt h3 16 (by decide);have hm3:x2.1≤x3.1:=by rw[hx3];simp only;omega
    have HB3:=hid (fun(W:World) (o:Res w0 B g q r s D L x2 W)=>(show Calls Tryz.prog 87 #[.pointer (some ⟨g,0,none⟩),.int .i64 4] W fun e w'=>e=.returned (.int .i64 k)∧Res w0 B g q r s D L x3 w' from by
   have:=o.lift (fun r i=>bits_4 i hs);rw[h3] at this
   exact this))
    clear h3 hx3;obtain⟨lt,hlt⟩:∃lt,a+257=lt:=⟨_,rfl⟩
    obtain⟨ds,hds⟩:∃ds,bd+1=ds:=⟨_,rfl⟩
    obtain⟨kn,hkn⟩:∃kn,k+4=kn:=⟨_,rfl⟩
    rw[hlt,hds,hkn] at hR;have ea:(257:Int)+(a:Int)=(lt:Int):=by omega
    have eb:(1:Int)+(bd:Int)=(ds:Int):=by omega
    have ek:(4:Int)+(k:Int)=(kn:Int):=by omega
    have ea2:(a:Int)+257=(lt:Int):=by omega
    have eb2:(bd:Int)+1=(ds:Int):=by omega
    have ek2:(k:Int)+4=(kn:Int):=by omega
    have hl1:257≤lt∧lt≤288:=by omega
    have hd1:1≤ds∧ds≤32:=by omega
    have hk1:kn≤19:=by omega
    by_cases hbad:286<lt∨30<ds
    · rw[if_pos hbad] at hR
      have hR2:R=.error 162:=hR.symm;subst hR2;clear hR hlt hds hkn;by_cases hq:286<lt
      · have d1:decide ((286:Int)<(lt:Int))=true:=decide_eq_true (by omega)
        have d2:decide (286<lt)=true:=decide_eq_true hq;clear hbad hq;go_enter Tryz.func90,Tryz.ntmps90
        go_wp2_with (first
         |(go_at_call 87;(with_reducible refine(HB1.out _ HS0.out).mono ?_);rintro e w1 ⟨rfl,o1⟩;have O1:=hid o1;clear o1)
         |(go_at_call 87;(with_reducible refine(HB2.out _ O1.out).mono ?_);rintro e w2 ⟨rfl,o2⟩;have O2:=hid o2;clear o2)
         |(go_at_call 87;(with_reducible refine(HB3.out _ O2.out).mono ?_);rintro e w3 ⟨rfl,o3⟩;have O3:=hid o3;clear o3)
         |(go_at_call 92;(with_reducible refine(fail_162 _).mono ?_);rintro e w4 ⟨rfl,k4⟩;have K4:=hid k4;clear k4))
        exact⟨rfl,rfl,HE.out _ (O3.out.end_ K4.out)⟩
      · have hq2:=hbad.resolve_left hq
        have d1:decide ((286:Int)<(lt:Int))=false:=decide_eq_false (by omega);have d2:decide (286<lt)=false:=decide_eq_false hq;have d3:decide ((30:Int)<(ds:Int))=true:=decide_eq_true (by omega);have d4:decide (30<ds)=true:=decide_eq_true hq2;clear hbad hq hq2;go_enter Tryz.func90,Tryz.ntmps90
        go_wp2_with (first
         |(go_at_call 87;(with_reducible refine(HB1.out _ HS0.out).mono ?_);rintro e w1 ⟨rfl,o1⟩;have O1:=hid o1;clear o1)
         |(go_at_call 87;(with_reducible refine(HB2.out _ O1.out).mono ?_);rintro e w2 ⟨rfl,o2⟩;have O2:=hid o2;clear o2)
         |(go_at_call 87;(with_reducible refine(HB3.out _ O2.out).mono ?_);rintro e w3 ⟨rfl,o3⟩;have O3:=hid o3;clear o3)
         |(go_at_call 92;(with_reducible refine(fail_162 _).mono ?_);rintro e w4 ⟨rfl,k4⟩;have K4:=hid k4;clear k4))
        exact⟨rfl,rfl,HE.out _ (O3.out.end_ K4.out)⟩
    · rw[if_neg hbad] at hR
      have hl2:lt≤286:=by omega
      have hd2:ds≤30:=by omega
      have d1:decide ((286:Int)<(lt:Int))=false:=decide_eq_false (by omega);have d2:decide (286<lt)=false:=decide_eq_false (by omega);have d3:decide ((30:Int)<(ds:Int))=false:=decide_eq_false (by omega);have d4:decide (30<ds)=false:=decide_eq_false (by omega);clear hbad hlt hds hkn;obtain⟨N,hN⟩:∃N,lt+ds=N:=⟨_,rfl⟩
      rw[hN] at hR;have eN:(lt:Int)+(ds:Int)=(N:Int):=by omega
      have hN4:N≤316∧258≤N:=by omega
      cases h4:ltR kn s D L x3 with
      |error c=>
       rw[bnd_er h4] at hR;subst hR
       have HT:=hid (fun(W:World) (o:Res w0 B g q r s D L x3 W)=>(show Calls Tryz.prog 133 #[.pointer (some ⟨g,0,none⟩),.int .i64 kn] W fun e w'=>e=.panicked (flt c)∧Kept (Ch g q r) w0 w' from by
        have:=o.lt hs kn hk1;simp only[h4] at this;exact this))
       clear h4;go_enter Tryz.func90,Tryz.ntmps90
       go_wp2_with (first
        |(go_at_call 87;(with_reducible refine(HB1.out _ HS0.out).mono ?_);rintro e w1 ⟨rfl,o1⟩;have O1:=hid o1;clear o1)
        |(go_at_call 87;(with_reducible refine(HB2.out _ O1.out).mono ?_);rintro e w2 ⟨rfl,o2⟩;have O2:=hid o2;clear o2)
        |(go_at_call 87;(with_reducible refine(HB3.out _ O2.out).mono ?_);rintro e w3 ⟨rfl,o3⟩;have O3:=hid o3;clear o3)
        |(go_at_call 133;(with_reducible refine(HT.out _ O3.out).mono ?_);rintro e w4 ⟨rfl,k4⟩;have K4:=hid k4;clear k4))
       exact⟨rfl,rfl,HE.out _ K4.out⟩
      |ok pp=>
       obtain⟨o,x4⟩:=pp;rw[bnd_of h4] at hR;have hm4:=(Nice.bnd (Nice.ownR kn 0 _) (fun o=>Nice.ite (Nice.fl 162) (Nice.pur o))).mono h4
       have HT:=hid (fun(W:World) (o':Res w0 B g q r s D L x3 W)=>(show Calls Tryz.prog 133 #[.pointer (some ⟨g,0,none⟩),.int .i64 kn] W fun e w'=>TabP w0 B g q r s D L (o,x4) e w' from by
        have:=o'.lt hs kn hk1;simp only[h4] at this;exact this))
       unfold TabP at HT;have hKx:8*s.size - x4.1<K:=HxK.out _ (by omega);clear h4 hm4;cases h5:loopR (len1 o N) K [] s D L x4 with
       |error c=>
        rw[bnd_er h5] at hR;subst hR
        have HL:=hid (fun(W:World) (t r1:Nat) (hk:Kept (Ch g q r) w0 W) (hr1:r1=r∨w0.heap.size≤r1) (i1:In W B g q r1 s D L x4) (t1:Tb W r1 t o 19)=>(show Calls Tryz.prog 132 #[.pointer (some ⟨g,0,none⟩),.pointer (some ⟨t,0,none⟩),.int .i64 N] W fun e w'=>e=.panicked (flt c)∧Kept (Ch g q r) w0 w' from by
         have:=lens_o hk hr1 i1 t1 hs (HTb.out _ hk) N K (by omega) hKx;rw[h5] at this;exact this))
        clear h5;go_enter Tryz.func90,Tryz.ntmps90
        go_wp2_with (first
         |(go_at_call 87;(with_reducible refine(HB1.out _ HS0.out).mono ?_);rintro e w1 ⟨rfl,o1⟩;have O1:=hid o1;clear o1)
         |(go_at_call 87;(with_reducible refine(HB2.out _ O1.out).mono ?_);rintro e w2 ⟨rfl,o2⟩;have O2:=hid o2;clear o2)
         |(go_at_call 87;(with_reducible refine(HB3.out _ O2.out).mono ?_);rintro e w3 ⟨rfl,o3⟩;have O3:=hid o3;clear o3)
         |(go_at_call 133;(with_reducible refine(HT.out _ O3.out).mono ?_);rintro e w4 ⟨t4,r4,rfl,k4,g4,i4,u4⟩;have K4:=hid k4;have G4:=hid g4;have I4:=hid i4;have U4:=hid u4;clear k4 g4 i4 u4)
         |(go_at_call 132;(with_reducible refine(HL.out _ _ _ K4.out G4.out I4.out U4.out).mono ?_);rintro e w5 ⟨rfl,k5⟩;have K5:=hid k5;clear k5))
        exact⟨rfl,rfl,HE.out _ K5.out⟩
       |ok pp=>
        obtain⟨all,x5⟩:=pp;rw[bnd_of h5] at hR
        have HL:=hid (fun(W:World) (t r1:Nat) (hk:Kept (Ch g q r) w0 W) (hr1:r1=r∨w0.heap.size≤r1) (i1:In W B g q r1 s D L x4) (t1:Tb W r1 t o 19)=>(show Calls Tryz.prog 132 #[.pointer (some ⟨g,0,none⟩),.pointer (some ⟨t,0,none⟩),.int .i64 N] W fun e w'=>LensV W N all e w'∧Res w0 B g q r s D L x5 w' from by
         have:=lens_o hk hr1 i1 t1 hs (HTb.out _ hk) N K (by omega) hKx;rw[h5] at this;exact this))
        unfold LensV at HL;clear h5;obtain⟨v,hv⟩:∃v,all.getD 256 0=v:=⟨_,rfl⟩
        unfold tabR at hR;by_cases hz:v=0
        · have hR2:R=.error 162:=by rw[←hR,if_pos (.inl (hv.trans hz))];rfl
          subst hR2;subst hz;clear hR;go_enter Tryz.func90,Tryz.ntmps90
          go_wp2_with (first
           |(go_at_call 87;(with_reducible refine(HB1.out _ HS0.out).mono ?_);rintro e w1 ⟨rfl,o1⟩;have O1:=hid o1;clear o1)
           |(go_at_call 87;(with_reducible refine(HB2.out _ O1.out).mono ?_);rintro e w2 ⟨rfl,o2⟩;have O2:=hid o2;clear o2)
           |(go_at_call 87;(with_reducible refine(HB3.out _ O2.out).mono ?_);rintro e w3 ⟨rfl,o3⟩;have O3:=hid o3;clear o3)
           |(go_at_call 133;(with_reducible refine(HT.out _ O3.out).mono ?_);rintro e w4 ⟨t4,r4,rfl,k4,g4,i4,u4⟩;have K4:=hid k4;have G4:=hid g4;have I4:=hid i4;have U4:=hid u4;clear k4 g4 i4 u4)
           |(go_at_call 132;(with_reducible refine(HL.out _ _ _ K4.out G4.out I4.out U4.out).mono ?_);rintro e w5 ⟨⟨A5,c5,rfl,l5,y5,m5⟩,o5⟩;obtain⟨b5,q5,rfl,z5,cl5⟩:=y5.at (by omega);have v5:=cl5 256 (by omega);rw[hv] at v5;have Y5:=hid y5;have O5:=hid o5;clear l5 y5 o5 cl5)
           |(go_at_call 92;(with_reducible refine(fail_162 _).mono ?_);rintro e w6 ⟨rfl,k6⟩;have K6:=hid k6;clear k6))
          exact⟨rfl,rfl,HE.out _ (O5.out.end_ K6.out)⟩
        · have dz1:((v:Int)==0)=false:=by rw[beq_eq_false_iff_ne];omega
          have dz2:(v==0)=false:=by rw[beq_eq_false_iff_ne];exact hz
          by_cases htt:¬Tbl (lit all) lt∨¬Tbl (dis all lt) ds
          · have hR2:R=.error 162:=by rw[←hR,if_pos (.inr htt)];rfl
            subst hR2;clear hR;have HTs:=hid (fun(W:World) (c1 c2 b9 o9:Nat) (hB:U.IsBys W (some ⟨b9,o9,none⟩) N all)=>tablesOf_no (some ⟨b9,o9,none⟩) (some ⟨b9,o9+lt,none⟩) lt c1 ds c2 (lit all) (dis all lt) W (by unfold maxLen;omega) (by unfold maxLen;omega) (fun i=>hB.le i) (fun i=>hB.le (lt+i)) (by have:=bys_nums hB 0 lt (by omega);simp only[Nat.zero_add,Nat.add_zero] at this;exact this) (bys_nums hB lt ds (by omega)) htt);unfold Fails at HTs;clear htt;go_enter Tryz.func90,Tryz.ntmps90
            go_wp2_with (first
             |(go_at_call 87;(with_reducible refine(HB1.out _ HS0.out).mono ?_);rintro e w1 ⟨rfl,o1⟩;have O1:=hid o1;clear o1)
             |(go_at_call 87;(with_reducible refine(HB2.out _ O1.out).mono ?_);rintro e w2 ⟨rfl,o2⟩;have O2:=hid o2;clear o2)
             |(go_at_call 87;(with_reducible refine(HB3.out _ O2.out).mono ?_);rintro e w3 ⟨rfl,o3⟩;have O3:=hid o3;clear o3)
             |(go_at_call 133;(with_reducible refine(HT.out _ O3.out).mono ?_);rintro e w4 ⟨t4,r4,rfl,k4,g4,i4,u4⟩;have K4:=hid k4;have G4:=hid g4;have I4:=hid i4;have U4:=hid u4;clear k4 g4 i4 u4)
             |(go_at_call 132;(with_reducible refine(HL.out _ _ _ K4.out G4.out I4.out U4.out).mono ?_);rintro e w5 ⟨⟨A5,c5,rfl,l5,y5,m5⟩,o5⟩;obtain⟨b5,q5,rfl,z5,cl5⟩:=y5.at (by omega);have v5:=cl5 256 (by omega);rw[hv] at v5;have Y5:=hid y5;have O5:=hid o5;clear l5 y5 o5 cl5))
            have s1:lt≤c5:=by omega
            have s2:¬c5=lt:=by omega
            have s3:N - lt=ds:=by omega
            have s4:lt≤N:=by omega
            obtain⟨c6,hc6⟩:∃c6,c5 - lt=c6:=⟨_,rfl⟩
            have s5:(N:Int) - (lt:Int)=(ds:Int):=by omega
            have hb5:b<w5.heap.size:=by have:=O5.out.kept.size;omega
            go_still_tail 6,(by kernel_rfl)
            go_wp2_with (go_at_call 129;(with_reducible refine(HTs.out _ c5 c6 b5 q5 (Y5.out.below ((Below.refl _ _).drew))).mono ?_);rintro e w6 ⟨rfl,b6⟩;have B6:=hid b6;clear b6);exact⟨rfl,rfl,HE.out _ ((O5.out.kept.drew).trans (Kept.of_below B6.out) (fun _ e=>e.elim))⟩
          · have hR2:R=.ok ((all,lt,ds),x5):=by rw[←hR,if_neg (fun e=>by rcases e with e|e;exact hz (hv.symm.trans e);exact htt e)];rfl
            subst hR2;clear hR;have ht1:Tbl (lit all) lt:=Classical.byContradiction fun e=>htt (.inl e)
            have ht2:Tbl (dis all lt) ds:=Classical.byContradiction fun e=>htt (.inr e)
            have HTs:=hid (fun(W:World) (c1 c2 b9 o9:Nat) (hB:U.IsBys W (some ⟨b9,o9,none⟩) N all)=>tablesOf_yes (some ⟨b9,o9,none⟩) (some ⟨b9,o9+lt,none⟩) lt c1 ds c2 (lit all) (dis all lt) W (fun i=>hB.le i) (fun i=>hB.le (lt+i)) (by have:=bys_nums hB 0 lt (by omega);simp only[Nat.zero_add,Nat.add_zero] at this;exact this) (bys_nums hB lt ds (by omega)) ht1 ht2);unfold NewTs at HTs;clear htt;go_enter Tryz.func90,Tryz.ntmps90
            go_wp2_with (first
             |(go_at_call 87;(with_reducible refine(HB1.out _ HS0.out).mono ?_);rintro e w1 ⟨rfl,o1⟩;have O1:=hid o1;clear o1)
             |(go_at_call 87;(with_reducible refine(HB2.out _ O1.out).mono ?_);rintro e w2 ⟨rfl,o2⟩;have O2:=hid o2;clear o2)
             |(go_at_call 87;(with_reducible refine(HB3.out _ O2.out).mono ?_);rintro e w3 ⟨rfl,o3⟩;have O3:=hid o3;clear o3)
             |(go_at_call 133;(with_reducible refine(HT.out _ O3.out).mono ?_);rintro e w4 ⟨t4,r4,rfl,k4,g4,i4,u4⟩;have K4:=hid k4;have G4:=hid g4;have I4:=hid i4;have U4:=hid u4;clear k4 g4 i4 u4)
             |(go_at_call 132;(with_reducible refine(HL.out _ _ _ K4.out G4.out I4.out U4.out).mono ?_);rintro e w5 ⟨⟨A5,c5,rfl,l5,y5,m5⟩,o5⟩;obtain⟨b5,q5,rfl,z5,cl5⟩:=y5.at (by omega);have v5:=cl5 256 (by omega);rw[hv] at v5;have Y5:=hid y5;have O5:=hid o5;clear l5 y5 o5 cl5))
            have s1:lt≤c5:=by omega
            have s2:¬c5=lt:=by omega
            have s3:N - lt=ds:=by omega
            have s4:lt≤N:=by omega
            obtain⟨c6,hc6⟩:∃c6,c5 - lt=c6:=⟨_,rfl⟩
            have s5:(N:Int) - (lt:Int)=(ds:Int):=by omega
            have hb5:b<w5.heap.size:=by have:=O5.out.kept.size;omega
            go_region_with (go_at_call 129;(with_reducible refine(HTs.out _ c5 c6 b5 q5 (Y5.out.below ((Below.refl _ _).drew))).mono ?_);(rintro e w6 ⟨p1,p2,rfl,hp1,hp2,b6,t6⟩;have f6:=(b6.block b hb5).trans (HF.out _ O5.out.kept.drew);have f60:=(two_at f6).1;have f61:=(two_at f6).2.1;have f62:=(two_at f6).2.2.1;have f63:=(two_at f6).2.2.2;have F6:=hid f6;have T6:=hid t6;have B6:=hid b6;clear b6 t6 f6))
            go_wp2_with fail;refine bodyPost_ret (v:=.agg #[.pointer (some ⟨p1,0,none⟩),.pointer (some ⟨p2,0,none⟩)]) (results_cell_row rfl _ _ b _ _ _ _ rfl (two_put F6.out _ _) Tryz.underlying105 rfl tabsSize) rfl ?_
            obtain⟨k5,r5,hr5,i5⟩:=O5.out;have hr5l:=i5.rlt;have i6:In w6 B g q r5 s D L x5:=(i5.same ((Kept.refl NoB w5).drew)).below B6.out;have k7:Kept (fun j=>j=b) w6 ((w6.setCell ⟨b,0,none⟩ (.pointer (some ⟨p1,0,none⟩))).setCell ⟨b,1,none⟩ (.pointer (some ⟨p2,0,none⟩))):=((Kept.refl (fun j=>j=b) w6).setCell ⟨b,0,none⟩ (.inl rfl) _).setCell ⟨b,1,none⟩ (.inl rfl) _;refine⟨p1,p2,r5,rfl,(HE.out _ ((k5.drew).trans (Kept.of_below B6.out) (fun _ e=>e.elim))).trans k7 (fun j e=> .inr (by omega)),?_,i6.other k7 (by omega) (by omega) (by rcases hr5 with e|e<;>omega) ⟨_,(two_at F6.out).1,fun z=>⟨fun e=>(by cases e),fun e=>(by cases e)⟩⟩,(T6.out r5 hr5l).1.two F6.out (fun _=>⟨fun e=>(by cases e),fun e=>(by cases e)⟩) _ _,(T6.out r5 hr5l).2.two F6.out (fun _=>⟨fun e=>(by cases e),fun e=>(by cases e)⟩) _ _⟩;rcases hr5 with e|e
            · exact .inl e
            · exact .inr (by omega)
end
theorem step_fives{ops:Array Oper}{o:Oper}{a:Act}{w:World}{K:Act→World→Prop}{Q:Exit→Act→World→Prop}{E:Prop}(hgd:o.guard=none)(s x:Operand)
 (ho:o.op=.call {callee:=.builtin .append,args:= #[s,x],argTypes:= #[23,23]}) (A:Option Addr) (hs:a.eval s=.slice A 30 30) (h:Nums w .u8 A 30 (fun _=>((5:Nat):Int)))
 (ad:Nat) (c:Nat) (hx:a.eval x=.slice (some ⟨ad,0,none⟩) 2 c) (hc:w.cell? ⟨ad,0,none⟩=some (.int .u8 5)∧w.cell? ⟨ad,1,none⟩=some (.int .u8 5))
 (hK:∀A' cp' w',Nums w' .u8 A' 32 (fun _=>((5:Nat):Int))→Kept NoB w w'→K (a.put o.dst (.slice A' 32 cp')) w'):
 if Region.wanted o (yielded ops a.tmps)=true then Oper.wp Tryz.prog o a w K Q else E:=by
 have hw:Region.wanted o (yielded ops a.tmps)=true:=by simp[Region.wanted,hgd]
 rw[if_pos hw];obtain⟨b,o9,rfl,hb,hcl⟩:=h (by decide);obtain⟨i,h1,h2,h3,h4⟩:=V.Tx.info_of V.Tx.byteInfo
 have hrep:∀n j u,(List.replicate n (Value.int .u8 5))[j]? =some u→j<n∧u=.int .u8 5:=fun n j u hu=>by
  rw[List.getElem?_replicate] at hu
  split at hu
  · rename_i q;cases hu;exact⟨q,rfl⟩
  · cases hu
 obtain⟨v',w',hrun,r1,r2⟩:=run_append_arg_grows (P:= Tryz.prog) w 23 o.type 5 i (.int .u8 0) 1 1 Tryz.underlying23 h1 h2 h3 h4 rfl (by decide) ⟨b,o9,none⟩ 30 30 (List.replicate 30 (.int .u8 5)) (by simp)
  (fun j u hu=>by obtain⟨q1,rfl⟩:=hrep 30 j u hu;rw[V.cadd_at];exact hcl j q1)
  ⟨ad,0,none⟩ 2 c (List.replicate 2 (.int .u8 5)) rfl (fun j u hu=>by
   obtain⟨q1,rfl⟩:=hrep 2 j u hu;rw[V.cadd_at,Nat.zero_add];have hj:j=0∨j=1:=by omega
   rcases hj with rfl|rfl
   · exact hc.1
   · exact hc.2) (by omega) (by unfold maxLen;omega) (by omega)
 unfold Oper.wp execOp;simp only[ho,resolve,invoke,builtin,Sem.run_bind,Sem.run_pure,Result.andThen_ok,List.map_toArray,List.map_cons,List.map_nil,hs,hx,hrun];have e:List.replicate 30 (Value.int .u8 5)++List.replicate 2 (.int .u8 5)=List.replicate 32 (.int .u8 5):=by rw[List.replicate_append_replicate]
 rw[e] at r1;have hk:Kept NoB w w':=(Kept.of_grown r2).mono (fun j q=>by cases q);rcases r1.2 with⟨_,q⟩|⟨g',cap,cur,rfl,hg,hh,hnc,hcm,hsz,htk⟩
 · cases q
 · refine hK _ cap w' (fun _=>⟨g',0,rfl,(Array.getElem?_eq_some_iff.1 hh).1,fun j hj=> ?_⟩) hk
   have:=r1.cells (g:=g') rfl j (.int .u8 5) (by rw[List.getElem?_replicate,if_pos hj]);rw[V.cadd_at] at this;exact this
section
variable {w:World} {B g q r D L:Nat} {s:ByteArray} {x:St}
theorem In.setMade(h:In w B g q r s D L x){p1 p2:Nat}(t1:Tb w r p1 fx 288)(t2:Tb w r p2 (fun _=>5) 32):
 In ((w.setCell ⟨g,3,none⟩ (.pointer (some ⟨p1,0,none⟩))).setCell ⟨g,4,none⟩ (.pointer (some ⟨p2,0,none⟩))) B g q r s D L x:=by
 obtain⟨cp,v3,v4,h1,h2,h3⟩:=h.row;have hk:Kept (fun j=>j=g) w ((w.setCell ⟨g,3,none⟩ (.pointer (some ⟨p1,0,none⟩))).setCell ⟨g,4,none⟩ (.pointer (some ⟨p2,0,none⟩))):=((Kept.refl (fun j=>j=g) w).setCell ⟨g,3,none⟩ (.inl rfl) _).setCell ⟨g,4,none⟩ (.inl rfl) _;have hn:∀j,j=g→NoT w j:=fun j e=>by rw[e];exact h.ng
 refine⟨h.gb,h.rb,h.qr,h.rd.keep hk (fun e=>h.gq e.symm),⟨cp,_,_,?_,h2.kept hk (fun e=>h.gr e.symm),.inr ⟨p1,p2,rfl,rfl,t1.keptN hk hn,t2.keptN hk hn⟩⟩,h.dl,h.ll⟩
 have e1:(w.setCell ⟨g,3,none⟩ (.pointer (some ⟨p1,0,none⟩))).heap[g]? =some (.cells #[.pointer (some ⟨q,0,none⟩),.slice (some ⟨r,0,none⟩) x.2.length cp,.int .i64 ((L:Int) - ((x.2.length - D:Nat):Int)),.pointer (some ⟨p1,0,none⟩),v4] 107 (0,0)):=by
  rw[setCell_eq_setRow w g 3 _ _ _ _ h1,setRow_heap w g _ _ _ _ h1];rfl
 rw[setCell_eq_setRow _ g 4 _ _ _ _ e1,setRow_heap _ g _ _ _ _ e1];rfl
set_option maxHeartbeats 4000000 in
theorem fixed_c(h:In w B g q r s D L x):
 Calls Tryz.prog 88 #[.pointer (some ⟨g,0,none⟩)] w (TwoP w B g q r s D L fx 288 (fun _=>5) 32 x):=by
 obtain⟨cp,v3,v4,c0,c1,c2,c3,c4,cf,hy,hm⟩:=h.cells;have hkA:Kept NoB w (w.alloc (.cells #[.pointer none,.pointer none] 105)):=(Kept.refl _ _).alloc _;have hnew:(w.alloc (.cells #[.pointer none,.pointer none] 105)).heap[w.heap.size]? =some (.cells #[.pointer none,.pointer none] 105 (0,0)):=heap_alloc_new _ _;have hsz:(w.alloc (.cells #[.pointer none,.pointer none] 105)).heap.size=w.heap.size+1:=by simp
 obtain⟨w0,hw0⟩:∃w0,w.alloc (.cells #[.pointer none,.pointer none] 105)=w0:=⟨_,rfl⟩
 rw[hw0] at hkA hnew hsz;obtain⟨b,hb⟩:∃b,w.heap.size=b:=⟨_,rfl⟩
 rw[hb] at hnew hsz;have hgb:g<b:=by have:=h.glt;omega
 have hqb:q<b:=by have:=h.rd.lt;omega
 have hrb:r<b:=by have:=h.rlt;omega
 have i0:=h.same hkA;have d3:=hkA.cell c3 (fun e=>e);have d4:=hkA.cell c4 (fun e=>e);obtain⟨n0,n1,n2,n3⟩:=two_at hnew;have HN:=hid hnew;have HK:=hid hkA;have HI:=hid i0;rcases hm with⟨rfl,rfl⟩|⟨p1,p2,rfl,rfl,t1,t2⟩
 · have HFx:=hid (V.fixed_f w0)
   clear h hy cf c0 c1 c2 c3 c4 hkA hnew i0;unfold TwoP;go_enter Tryz.func88,Tryz.ntmps88;go_wp2_with (go_at_call 128;(with_reducible refine HFx.out.mono ?_);rintro e w1 ⟨A1,c1,A2,c2,rfl,s1,s2,b1,u1,u2,rfl⟩;have S1:=hid s1;have S2:=hid s2;have B1:=hid b1;clear s1 s2 b1 u1 u2);have hw1:=B1.out.size;have hbx:(w1.alloc (.cells #[.slice A1 288 c1,.slice A2 30 30] 77)).heap[w1.heap.size]? =some (.cells #[.slice A1 288 c1,.slice A2 30 30] 77 (0,0)):=heap_alloc_new _ _;have hkb:Kept NoB w1 (w1.alloc (.cells #[.slice A1 288 c1,.slice A2 30 30] 77)):=(Kept.refl _ _).alloc _;obtain⟨wB,hwB⟩:∃wB,w1.alloc (.cells #[.slice A1 288 c1,.slice A2 30 30] 77)=wB:=⟨_,rfl⟩
   rw[hwB] at hbx hkb ⊢;have m0:=(two_at hbx).1;have m1:=(two_at hbx).2.1;have HKB:=hid hkb;have hwb:=hkb.size;have m0a:∀o:Obj,(wB.drew.alloc o).cell? ⟨w1.heap.size,0,none⟩=some (.slice A1 288 c1):=fun o=>(World.cell?_of_block (a:=⟨w1.heap.size,0,none⟩) (Below.heap_alloc wB.drew _ _ (World.block_lt_of_cell? _ _ m0))).trans m0
   have m1a:∀o:Obj,(wB.drew.alloc o).cell? ⟨w1.heap.size,1,none⟩=some (.slice A2 30 30):=fun o=>(World.cell?_of_block (a:=⟨w1.heap.size,1,none⟩) (Below.heap_alloc wB.drew _ _ (World.block_lt_of_cell? _ _ m1))).trans m1
   have m0c:∀o:Obj,(wB.alloc o).drew.cell? ⟨w1.heap.size,0,none⟩=some (.slice A1 288 c1):=m0a;have m1c:∀o:Obj,(wB.alloc o).drew.cell? ⟨w1.heap.size,1,none⟩=some (.slice A2 30 30):=m1a;have HS1:=hid (fun(W:World) (hb:Below w1.heap.size w1 W)=>(show Nums W .u8 A1 288 (fun i=>(fx i:Int)) from S1.out.below hb));have HTs:=hid (fun(W:World) (hb:Below w1.heap.size w1 W) (A':Option Addr) (c':Nat) (h5:Nums W .u8 A' 32 (fun _=>((5:Nat):Int)))=>tablesOf_yes A1 A' 288 c1 32 c' fx (fun _=>5) W (fun i=>by unfold fx;split<;>(try split)<;>(try split)<;>omega) (fun _=>by omega) (HS1.out W hb) h5 (by decide+kernel) (by decide+kernel));unfold NewTs at HTs;have HK0:=hid (fun(W:World) (hb:Kept NoB w1 W)=>(show Kept NoB w0 W from(Kept.of_below B1.out).trans hb (fun _ e=>e.elim)));clear hbx hkb hwB
   go_region_law (first
    |(refine step_fives rfl (.tmp 15) (.tmp 16) rfl A2 (by simp[Act.eval]) (S2.out.below (kb (by first|exact(HKB.out.drew).alloc _|exact(HKB.out.alloc _).drew))) wB.heap.size 2 (by simp[Act.eval]) ⟨by simp,by simp⟩ ?_;intro A' cp' w4 s4 k4;have K4:=hid (show Kept NoB w1 w4 from by first|exact((HKB.out.drew).alloc _).trans k4 (fun _ e=>e.elim)|exact((HKB.out.alloc _).drew).trans k4 (fun _ e=>e.elim));have m0b:w4.cell? ⟨w1.heap.size,0,none⟩=some (.slice A1 288 c1):=(by first|exact k4.cell (m0a _) (fun e=>e)|exact k4.cell (m0c _) (fun e=>e));have S4:=hid s4;clear s4 k4)
    |(rw[if_pos (by rfl)];go_simp;(with_reducible refine(HTs.out _ (kb K4.out) _ _ S4.out).mono ?_);rintro e w6 ⟨p1,p2,rfl,hp1,hp2,b6,t6⟩;have K6:=hid (HK0.out _ (K4.out.trans (Kept.of_below b6) (fun _ e=>e.elim)));have n6:=(K6.out.block b (by omega) (fun e=>e)).trans HN.out;obtain⟨cp6,v36,v46,e60,e61,e62,e63,e64,e6f,_,_⟩:=(HI.out.same K6.out).cells;have e6f3:=e6f 3;have e6f4:=e6f 4;have n60:=(two_at n6).1;have n61:=(two_at n6).2.1;have n62:=(two_at n6).2.2.1;have n63:=(two_at n6).2.2.2;have N6:=hid n6;have T6:=hid t6;have hs4:=K4.out.size;clear b6 n6 t6 e60 e61 e62 e6f))
   all_goals
    go_wp2_with fail;have hr4:r<w4.heap.size:=by have:=HI.out.rlt;omega
    have i7:=(HI.out.same K6.out).setMade (T6.out r hr4).1 (T6.out r hr4).2;have hng:∀j,j=g→NoT w6 j:=fun j e=>by rw[e];exact(HI.out.same K6.out).ng
    have kg:Kept (fun j=>j=g) w6 ((w6.setCell ⟨g,3,none⟩ (.pointer (some ⟨p1,0,none⟩))).setCell ⟨g,4,none⟩ (.pointer (some ⟨p2,0,none⟩))):=((Kept.refl (fun j=>j=g) w6).setCell ⟨g,3,none⟩ (.inl rfl) _).setCell ⟨g,4,none⟩ (.inl rfl) _;have t7:=(T6.out r hr4).1.keptN kg hng;have u7:=(T6.out r hr4).2.keptN kg hng;have n7:=(kg.block b (Array.getElem?_eq_some_iff.1 N6.out).1 (fun e=>by omega)).trans N6.out;obtain⟨w7,hw7⟩:∃w7,(w6.setCell ⟨g,3,none⟩ (.pointer (some ⟨p1,0,none⟩))).setCell ⟨g,4,none⟩ (.pointer (some ⟨p2,0,none⟩))=w7:=⟨_,rfl⟩
    rw[hw7] at i7 kg t7 u7 n7 ⊢;refine bodyPost_ret (v:=.agg #[.pointer (some ⟨p1,0,none⟩),.pointer (some ⟨p2,0,none⟩)]) (results_cell_row rfl _ _ b _ _ _ _ rfl (two_put n7 _ _) Tryz.underlying105 rfl tabsSize) rfl ?_
    have k8:Kept (fun j=>j=b) w7 ((w7.setCell ⟨b,0,none⟩ (.pointer (some ⟨p1,0,none⟩))).setCell ⟨b,1,none⟩ (.pointer (some ⟨p2,0,none⟩))):=((Kept.refl (fun j=>j=b) w7).setCell ⟨b,0,none⟩ (.inl rfl) _).setCell ⟨b,1,none⟩ (.inl rfl) _;have k9:Kept (Ch g q r) w w7:=((HK.out.trans K6.out (fun _ e=>e.elim)).none _).trans kg (fun j e=> .inl (.inl e));exact⟨p1,p2,r,rfl,k9.trans k8 (fun j e=> .inr (by omega)),.inl rfl,i7.other k8 (by omega) (by omega) (by omega) ⟨_,(two_at n7).1,fun z=>⟨fun e=>(by cases e),fun e=>(by cases e)⟩⟩,t7.two n7 (fun _=>⟨fun e=>(by cases e),fun e=>(by cases e)⟩) _ _,u7.two n7 (fun _=>⟨fun e=>(by cases e),fun e=>(by cases e)⟩) _ _⟩
 · have u1:=t1.kept h.byt hkA (fun _ e=>e.elim)
   have u2:=t2.kept h.byt hkA (fun _ e=>e.elim);have HU1:=hid u1;have HU2:=hid u2;clear h hy cf c0 c1 c2 c3 c4 t1 t2 u1 u2 hkA hnew i0;unfold TwoP;go_enter Tryz.func88,Tryz.ntmps88;go_wp2_with fail;refine bodyPost_ret (v:=.agg #[.pointer (some ⟨p1,0,none⟩),.pointer (some ⟨p2,0,none⟩)]) (results_cell_row rfl _ _ b _ _ _ _ rfl (two_put HN.out _ _) Tryz.underlying105 rfl tabsSize) rfl ?_
   have k7:Kept (fun j=>j=b) w0 ((w0.setCell ⟨b,0,none⟩ (.pointer (some ⟨p1,0,none⟩))).setCell ⟨b,1,none⟩ (.pointer (some ⟨p2,0,none⟩))):=((Kept.refl (fun j=>j=b) w0).setCell ⟨b,0,none⟩ (.inl rfl) _).setCell ⟨b,1,none⟩ (.inl rfl) _;exact⟨p1,p2,r,rfl,(HK.out.none _).trans k7 (fun j e=> .inr (by omega)),.inl rfl,HI.out.other k7 (by omega) (by omega) (by omega) ⟨_,(two_at HN.out).1,fun z=>⟨fun e=>(by cases e),fun e=>(by cases e)⟩⟩,HU1.out.two HN.out (fun _=>⟨fun e=>(by cases e),fun e=>(by cases e)⟩) _ _,HU2.out.two HN.out (fun _=>⟨fun e=>(by cases e),fun e=>(by cases e)⟩) _ _⟩
end
def BlkV(b:Unit ⊕ Unit)(e:Ending)(_:World):Prop:=e=.returned (.bool (match b with|.inl _=>false|.inr _=>true))
def lastV(b:Bool):Unit ⊕ Unit:=if b=true then Sum.inr () else Sum.inl ()
section
variable {w0 w:World} {B g q r D L:Nat} {s:ByteArray} {x:St}
theorem syms_o{r1 p1 p2 n m:Nat}{l d:Nat→Nat}(hk:Kept (Ch g q r) w0 w)(hr1:r1=r∨w0.heap.size≤r1)(i1:In w B g q r1 s D L x)(t1:Tb w r1 p1 l n)(t2:Tb w r1 p2 d m)(hs:s.size≤100000)(ht:TB B w)(K:Nat)(hK:8*s.size - x.1<K)(hL:L≤800000000)(hD:D≤100000000):
 Calls Tryz.prog 91 #[.pointer (some ⟨g,0,none⟩),.agg #[.pointer (some ⟨p1,0,none⟩),.pointer (some ⟨p2,0,none⟩)]] w (Out w0 B g q r s D L (syms K l n d m s D L x) Nothing):=by
 refine(symbols_c i1 hs ht t1 t2 K hK hL hD).mono fun e w' o'=> ?_
 cases hl:syms K l n d m s D L x with
 |error c=>rw[hl] at o';exact⟨o'.1,Kept.ch_trans hk o'.2 hr1⟩
 |ok p=>rw[hl] at o';exact⟨o'.1,Res.trans (y:=x) hk hr1 o'.2⟩
theorem Res.two{l d:Nat→Nat}{n m:Nat}{y:St}{e:Ending}{w':World}{r1:Nat}(kk:Kept (Ch g q r) w0 w)(hr1:r1=r∨w0.heap.size≤r1)(h:TwoP w B g q r1 s D L l n d m y e w'):TwoP w0 B g q r s D L l n d m y e w':=by
 obtain⟨p1,p2,r2,e1,k2,hr2,i2,t1,t2⟩:=h;have:=kk.size;refine⟨p1,p2,r2,e1,Kept.ch_trans kk k2 hr1,?_,i2,t1,t2⟩;rcases hr2 with e|e
 · rw[e];exact hr1
 · exact .inr (by omega)
set_option maxHeartbeats 4000000 in
theorem block_c(h:In w B g q r s D L x)(hs:s.size≤100000)(ht:TB B w)(K:Nat)(hK:8*s.size - x.1<K)(hL:L≤800000000)(hD:D≤100000000):
 Calls Tryz.prog 55 #[.pointer (some ⟨g,0,none⟩)] w (Out w B g q r s D L (blk K () s D L x) BlkV):=by
 obtain⟨R,hR⟩:∃R,blk K () s D L x=R:=⟨_,rfl⟩
 rw[hR];unfold blk at hR;have HTb:=hid (fun(W:World) (k:Kept (Ch g q r) w W)=>(show TB B W from ht.go (h.bl k)));have HxK:=hid (fun(y:Nat) (hy:x.1≤y)=>(show 8*s.size - y<K from by omega));have HS0:=hid h.start;clear h ht;cases h1:bits 1 s D L x with
 |error c=>
  rw[bnd_er h1] at hR;subst hR
  have HB1:=hid (fun(W:World) (o:Res w B g q r s D L x W)=>(show Calls Tryz.prog 87 #[.pointer (some ⟨g,0,none⟩),.int .i64 1] W fun e w'=>e=.panicked (flt c)∧Kept (Ch g q r) w w' from by
   have:=o.lift (fun r i=>bits_1 i hs);rw[h1] at this;exact this))
  clear h1;go_enter Tryz.func55,Tryz.ntmps55;go_wp2_with (go_at_call 87;(with_reducible refine(HB1.out _ HS0.out).mono ?_);rintro e w1 ⟨rfl,k1⟩;have K1:=hid k1;clear k1);exact⟨rfl,rfl,K1.out⟩
 |ok pp=>
  obtain⟨f,x1⟩:=pp;rw[bnd_of h1] at hR;obtain⟨hf,hx1⟩:=bits_lt h1 2 (by decide);have hm1:x.1≤x1.1:=by rw[hx1];simp only;omega
  have HB1:=hid (fun(W:World) (o:Res w B g q r s D L x W)=>(show Calls Tryz.prog 87 #[.pointer (some ⟨g,0,none⟩),.int .i64 1] W fun e w'=>e=.returned (.int .i64 f)∧Res w B g q r s D L x1 w' from by
   have:=o.lift (fun r i=>bits_1 i hs);rw[h1] at this;exact this))
  clear h1 hx1;obtain⟨bl,hbl⟩:∃bl,decide (f=1)=bl:=⟨_,rfl⟩
  have df1:((f:Int)==1)=bl:=by rw[←hbl,Bool.eq_iff_iff,beq_iff_eq,decide_eq_true_eq];omega
  have df2:(f==1)=bl:=by rw[←hbl,Bool.eq_iff_iff,beq_iff_eq,decide_eq_true_eq]
  have hfin:∀ (u:Unit) (s:ByteArray) (D L:Nat) (y:St),(pur (if f=1 then Sum.inr () else Sum.inl ()):Rm (Unit ⊕ Unit)) s D L y=.ok (lastV bl,y):=fun u s D L y=>by
   subst hbl;unfold lastV;by_cases q:f=1
   · rw[if_pos q,if_pos (decide_eq_true q)];rfl
   · rw[if_neg q,if_neg (by rw[decide_eq_false q];decide)];rfl
  have HFin:=hid hfin;have HV:=hid (show ∀w',BlkV (lastV bl) (.returned (.bool bl)) w' from fun w'=>by cases bl<;>rfl);clear hfin hbl;cases h2:bits 2 s D L x1 with
  |error c=>
   rw[bnd_er h2] at hR;subst hR
   have HB2:=hid (fun(W:World) (o:Res w B g q r s D L x1 W)=>(show Calls Tryz.prog 87 #[.pointer (some ⟨g,0,none⟩),.int .i64 2] W fun e w'=>e=.panicked (flt c)∧Kept (Ch g q r) w w' from by
    have:=o.lift (fun r i=>bits_2 i hs);rw[h2] at this;exact this))
   clear h2;go_enter Tryz.func55,Tryz.ntmps55
   go_wp2_with (first
    |(go_at_call 87;(with_reducible refine(HB1.out _ HS0.out).mono ?_);rintro e w1 ⟨rfl,o1⟩;have O1:=hid o1;clear o1)
    |(go_at_call 87;(with_reducible refine(HB2.out _ O1.out).mono ?_);rintro e w2 ⟨rfl,k2⟩;have K2:=hid k2;clear k2))
   exact⟨rfl,rfl,K2.out⟩
  |ok pp=>
   obtain⟨k,x2⟩:=pp;rw[bnd_of h2] at hR;obtain⟨hk,hx2⟩:=bits_lt h2 4 (by decide);have hm2:x1.1≤x2.1:=by rw[hx2];simp only;omega
   have hK2:8*s.size - x2.1<K:=HxK.out _ (by omega)
   have hB2:=(fun(W:World) (o:Res w B g q r s D L x1 W)=>(show Calls Tryz.prog 87 #[.pointer (some ⟨g,0,none⟩),.int .i64 2] W fun e w'=>e=.returned (.int .i64 k)∧Res w B g q r s D L x2 w' from by
    have:=o.lift (fun r i=>bits_2 i hs);rw[h2] at this;exact this))
   clear h2 hx2;have hc:k=0∨k=1∨k=2∨k=3:=by omega
   rcases hc with rfl|rfl|rfl|rfl
   · have HB2:=hid (fun(W:World) (o:Res w B g q r s D L x1 W)=>(show Calls Tryz.prog 87 #[.pointer (some ⟨g,0,none⟩),.int .i64 2] W fun e w'=>e=.returned (.int .i64 0)∧Res w B g q r s D L x2 w' from hB2 W o))
     clear hB2;rw[show body K 0=stor from rfl] at hR;cases h3:stor s D L x2 with
     |error c=>
      rw[bnd_er h3] at hR;subst hR
      have HC:=hid (fun(W:World) (o:Res w B g q r s D L x2 W)=>(show Calls Tryz.prog 89 #[.pointer (some ⟨g,0,none⟩)] W fun e w'=>e=.panicked (flt c)∧Kept (Ch g q r) w w' from by
       have:=o.lift (fun r i=>stored_c i hs hL hD);rw[h3] at this;exact this))
      clear h3;go_enter Tryz.func55,Tryz.ntmps55
      go_wp2_with (first
       |(go_at_call 87;(with_reducible refine(HB1.out _ HS0.out).mono ?_);rintro e w1 ⟨rfl,o1⟩;have O1:=hid o1;clear o1)
       |(go_at_call 87;(with_reducible refine(HB2.out _ O1.out).mono ?_);rintro e w2 ⟨rfl,o2⟩;have O2:=hid o2;clear o2)
       |(go_at_call 89;(with_reducible refine(HC.out _ O2.out).mono ?_);rintro e w3 ⟨rfl,k3⟩;have K3:=hid k3;clear k3))
      exact⟨rfl,rfl,K3.out⟩
     |ok pp=>
      obtain⟨u,x3⟩:=pp;rw[bnd_of h3,HFin.out ()] at hR;subst hR
      have HC:=hid (fun(W:World) (o:Res w B g q r s D L x2 W)=>(show Calls Tryz.prog 89 #[.pointer (some ⟨g,0,none⟩)] W fun e w'=>e=.returned (.tuple #[])∧Res w B g q r s D L x3 w' from by
       have:=o.lift (fun r i=>stored_c i hs hL hD);rw[h3] at this;exact this))
      clear h3;go_enter Tryz.func55,Tryz.ntmps55
      go_wp2_with (first
       |(go_at_call 87;(with_reducible refine(HB1.out _ HS0.out).mono ?_);rintro e w1 ⟨rfl,o1⟩;have O1:=hid o1;clear o1)
       |(go_at_call 87;(with_reducible refine(HB2.out _ O1.out).mono ?_);rintro e w2 ⟨rfl,o2⟩;have O2:=hid o2;clear o2)
       |(go_at_call 89;(with_reducible refine(HC.out _ O2.out).mono ?_);rintro e w3 ⟨rfl,o3⟩;have O3:=hid o3;clear o3))
      go_ret;exact⟨HV.out _,O3.out⟩
   · have HB2:=hid (fun(W:World) (o:Res w B g q r s D L x1 W)=>(show Calls Tryz.prog 87 #[.pointer (some ⟨g,0,none⟩),.int .i64 2] W fun e w'=>e=.returned (.int .i64 1)∧Res w B g q r s D L x2 w' from hB2 W o))
     clear hB2;rw[show body K 1=syms K fx 288 (fun _=>5) 32 from rfl] at hR
     have HFx:=hid (fun(W:World) (o:Res w B g q r s D L x2 W)=>(show Calls Tryz.prog 88 #[.pointer (some ⟨g,0,none⟩)] W (TwoP w B g q r s D L fx 288 (fun _=>5) 32 x2) from by
      obtain⟨kk,r1,hr1,i1⟩:=o;exact(fixed_c i1).mono fun e w' o'=>Res.two kk hr1 o'))
     unfold TwoP at HFx;cases h3:syms K fx 288 (fun _=>5) 32 s D L x2 with
     |error c=>
      rw[bnd_er h3] at hR;subst hR
      have HC:=hid (fun(W:World) (r1 p1 p2:Nat) (hk:Kept (Ch g q r) w W) (hr1:r1=r∨w.heap.size≤r1) (i1:In W B g q r1 s D L x2) (t1:Tb W r1 p1 fx 288) (t2:Tb W r1 p2 (fun _=>5) 32)=>(show Calls Tryz.prog 91 #[.pointer (some ⟨g,0,none⟩),.agg #[.pointer (some ⟨p1,0,none⟩),.pointer (some ⟨p2,0,none⟩)]] W fun e w'=>e=.panicked (flt c)∧Kept (Ch g q r) w w' from by
       have:=syms_o hk hr1 i1 t1 t2 hs (HTb.out _ hk) K hK2 hL hD;rw[h3] at this;exact this))
      clear h3;go_enter Tryz.func55,Tryz.ntmps55
      go_wp2_with (first
       |(go_at_call 87;(with_reducible refine(HB1.out _ HS0.out).mono ?_);rintro e w1 ⟨rfl,o1⟩;have O1:=hid o1;clear o1)
       |(go_at_call 87;(with_reducible refine(HB2.out _ O1.out).mono ?_);rintro e w2 ⟨rfl,o2⟩;have O2:=hid o2;clear o2)
       |(go_at_call 88;(with_reducible refine(HFx.out _ O2.out).mono ?_);rintro e w3 ⟨p1,p2,r3,rfl,k3,g3,i3,t3,u3⟩;have K3:=hid k3;have G3:=hid g3;have I3:=hid i3;have T3:=hid t3;have U3:=hid u3;clear k3 g3 i3 t3 u3)
       |(go_at_call 91;(with_reducible refine(HC.out _ _ _ _ K3.out G3.out I3.out T3.out U3.out).mono ?_);rintro e w4 ⟨rfl,k4⟩;have K4:=hid k4;clear k4))
      exact⟨rfl,rfl,K4.out⟩
     |ok pp=>
      obtain⟨u,x3⟩:=pp;rw[bnd_of h3,HFin.out ()] at hR;subst hR
      have HC:=hid (fun(W:World) (r1 p1 p2:Nat) (hk:Kept (Ch g q r) w W) (hr1:r1=r∨w.heap.size≤r1) (i1:In W B g q r1 s D L x2) (t1:Tb W r1 p1 fx 288) (t2:Tb W r1 p2 (fun _=>5) 32)=>(show Calls Tryz.prog 91 #[.pointer (some ⟨g,0,none⟩),.agg #[.pointer (some ⟨p1,0,none⟩),.pointer (some ⟨p2,0,none⟩)]] W fun e w'=>e=.returned (.tuple #[])∧Res w B g q r s D L x3 w' from by
       have:=syms_o hk hr1 i1 t1 t2 hs (HTb.out _ hk) K hK2 hL hD;rw[h3] at this;exact this))
      clear h3;go_enter Tryz.func55,Tryz.ntmps55
      go_wp2_with (first
       |(go_at_call 87;(with_reducible refine(HB1.out _ HS0.out).mono ?_);rintro e w1 ⟨rfl,o1⟩;have O1:=hid o1;clear o1)
       |(go_at_call 87;(with_reducible refine(HB2.out _ O1.out).mono ?_);rintro e w2 ⟨rfl,o2⟩;have O2:=hid o2;clear o2)
       |(go_at_call 88;(with_reducible refine(HFx.out _ O2.out).mono ?_);rintro e w3 ⟨p1,p2,r3,rfl,k3,g3,i3,t3,u3⟩;have K3:=hid k3;have G3:=hid g3;have I3:=hid i3;have T3:=hid t3;have U3:=hid u3;clear k3 g3 i3 t3 u3)
       |(go_at_call 91;(with_reducible refine(HC.out _ _ _ _ K3.out G3.out I3.out T3.out U3.out).mono ?_);rintro e w4 ⟨rfl,o4⟩;have O4:=hid o4;clear o4))
      go_ret;exact⟨HV.out _,O4.out⟩
   · have HB2:=hid (fun(W:World) (o:Res w B g q r s D L x1 W)=>(show Calls Tryz.prog 87 #[.pointer (some ⟨g,0,none⟩),.int .i64 2] W fun e w'=>e=.returned (.int .i64 2)∧Res w B g q r s D L x2 w' from hB2 W o))
     clear hB2;rw[show body K 2=bnd (dyn K) fun t=>syms K (lit t.1) t.2.1 (dis t.1 t.2.1) t.2.2 from rfl] at hR
     have hDy:=(fun(W:World) (o:Res w B g q r s D L x2 W)=>(show Calls Tryz.prog 90 #[.pointer (some ⟨g,0,none⟩)] W fun e w'=>
      match dyn K s D L x2 with
      |.ok p=>TwoP w B g q r s D L (lit p.1.1) p.1.2.1 (dis p.1.1 p.1.2.1) p.1.2.2 p.2 e w'
      |.error c=>e=.panicked (flt c)∧Kept (Ch g q r) w w' from by
       have hTb:=HTb.out _ o.kept;obtain⟨kk,r1,hr1,i1⟩:=o;refine(dynamic_c i1 hs hTb K hK2).mono fun e w' o'=> ?_
       cases hd:dyn K s D L x2 with
       |error c=>rw[hd] at o';exact⟨o'.1,Kept.ch_trans kk o'.2 hr1⟩
       |ok p=>rw[hd] at o';exact Res.two kk hr1 o'))
     cases h4:dyn K s D L x2 with
     |error c=>
      rw[bnd_er (bnd_er h4)] at hR;subst hR;simp only[h4] at hDy;have HDy:=hid hDy;clear h4 hDy;go_enter Tryz.func55,Tryz.ntmps55
      go_wp2_with (first
       |(go_at_call 87;(with_reducible refine(HB1.out _ HS0.out).mono ?_);rintro e w1 ⟨rfl,o1⟩;have O1:=hid o1;clear o1)
       |(go_at_call 87;(with_reducible refine(HB2.out _ O1.out).mono ?_);rintro e w2 ⟨rfl,o2⟩;have O2:=hid o2;clear o2)
       |(go_at_call 90;(with_reducible refine(HDy.out _ O2.out).mono ?_);rintro e w3 ⟨rfl,k3⟩;have K3:=hid k3;clear k3))
      exact⟨rfl,rfl,K3.out⟩
     |ok pp=>
      obtain⟨⟨all,a,b⟩,x3⟩:=pp;have hm3:=((Nice.dyn K).mono h4).1;simp only[h4] at hDy;have HDy:=hid hDy;unfold TwoP at HDy;have hK3:8*s.size - x3.1<K:=HxK.out _ (by omega);have hbb:bnd (dyn K) (fun t=>syms K (lit t.1) t.2.1 (dis t.1 t.2.1) t.2.2) s D L x2=syms K (lit all) a (dis all a) b s D L x3:=bnd_of h4;clear h4 hDy;cases h3:syms K (lit all) a (dis all a) b s D L x3 with
      |error c=>
       rw[bnd_er (hbb.trans h3)] at hR;subst hR
       have HC:=hid (fun(W:World) (r1 p1 p2:Nat) (hk:Kept (Ch g q r) w W) (hr1:r1=r∨w.heap.size≤r1) (i1:In W B g q r1 s D L x3) (t1:Tb W r1 p1 (lit all) a) (t2:Tb W r1 p2 (dis all a) b)=>(show Calls Tryz.prog 91 #[.pointer (some ⟨g,0,none⟩),.agg #[.pointer (some ⟨p1,0,none⟩),.pointer (some ⟨p2,0,none⟩)]] W fun e w'=>e=.panicked (flt c)∧Kept (Ch g q r) w w' from by
        have:=syms_o hk hr1 i1 t1 t2 hs (HTb.out _ hk) K hK3 hL hD;rw[h3] at this;exact this))
       clear h3 hbb;go_enter Tryz.func55,Tryz.ntmps55
       go_wp2_with (first
        |(go_at_call 87;(with_reducible refine(HB1.out _ HS0.out).mono ?_);rintro e w1 ⟨rfl,o1⟩;have O1:=hid o1;clear o1)
        |(go_at_call 87;(with_reducible refine(HB2.out _ O1.out).mono ?_);rintro e w2 ⟨rfl,o2⟩;have O2:=hid o2;clear o2)
        |(go_at_call 90;(with_reducible refine(HDy.out _ O2.out).mono ?_);rintro e w3 ⟨p1,p2,r3,rfl,k3,g3,i3,t3,u3⟩;have K3:=hid k3;have G3:=hid g3;have I3:=hid i3;have T3:=hid t3;have U3:=hid u3;clear k3 g3 i3 t3 u3)
        |(go_at_call 91;(with_reducible refine(HC.out _ _ _ _ K3.out G3.out I3.out T3.out U3.out).mono ?_);rintro e w4 ⟨rfl,k4⟩;have K4:=hid k4;clear k4))
       exact⟨rfl,rfl,K4.out⟩
      |ok pp=>
       obtain⟨u,x4⟩:=pp;rw[bnd_of (hbb.trans h3),HFin.out ()] at hR;subst hR
       have HC:=hid (fun(W:World) (r1 p1 p2:Nat) (hk:Kept (Ch g q r) w W) (hr1:r1=r∨w.heap.size≤r1) (i1:In W B g q r1 s D L x3) (t1:Tb W r1 p1 (lit all) a) (t2:Tb W r1 p2 (dis all a) b)=>(show Calls Tryz.prog 91 #[.pointer (some ⟨g,0,none⟩),.agg #[.pointer (some ⟨p1,0,none⟩),.pointer (some ⟨p2,0,none⟩)]] W fun e w'=>e=.returned (.tuple #[])∧Res w B g q r s D L x4 w' from by
        have:=syms_o hk hr1 i1 t1 t2 hs (HTb.out _ hk) K hK3 hL hD;rw[h3] at this;exact this))
       clear h3 hbb;go_enter Tryz.func55,Tryz.ntmps55
       go_wp2_with (first
        |(go_at_call 87;(with_reducible refine(HB1.out _ HS0.out).mono ?_);rintro e w1 ⟨rfl,o1⟩;have O1:=hid o1;clear o1)
        |(go_at_call 87;(with_reducible refine(HB2.out _ O1.out).mono ?_);rintro e w2 ⟨rfl,o2⟩;have O2:=hid o2;clear o2)
        |(go_at_call 90;(with_reducible refine(HDy.out _ O2.out).mono ?_);rintro e w3 ⟨p1,p2,r3,rfl,k3,g3,i3,t3,u3⟩;have K3:=hid k3;have G3:=hid g3;have I3:=hid i3;have T3:=hid t3;have U3:=hid u3;clear k3 g3 i3 t3 u3)
        |(go_at_call 91;(with_reducible refine(HC.out _ _ _ _ K3.out G3.out I3.out T3.out U3.out).mono ?_);rintro e w4 ⟨rfl,o4⟩;have O4:=hid o4;clear o4))
       go_ret;exact⟨HV.out _,O4.out⟩
   · have HB2:=hid (fun(W:World) (o:Res w B g q r s D L x1 W)=>(show Calls Tryz.prog 87 #[.pointer (some ⟨g,0,none⟩),.int .i64 2] W fun e w'=>e=.returned (.int .i64 3)∧Res w B g q r s D L x2 w' from hB2 W o))
     clear hB2;rw[bnd_er (e:=160) (show body K 3 s D L x2=.error 160 from rfl)] at hR;subst hR;go_enter Tryz.func55,Tryz.ntmps55
     go_wp2_with (first
      |(go_at_call 87;(with_reducible refine(HB1.out _ HS0.out).mono ?_);rintro e w1 ⟨rfl,o1⟩;have O1:=hid o1;clear o1)
      |(go_at_call 87;(with_reducible refine(HB2.out _ O1.out).mono ?_);rintro e w2 ⟨rfl,o2⟩;have O2:=hid o2;clear o2)
      |(go_at_call 92;(with_reducible refine(fail_160 _).mono ?_);rintro e w3 ⟨rfl,k3⟩;have K3:=hid k3;clear k3))
     exact⟨rfl,rfl,O2.out.end_ K3.out⟩
end
end Go.Proofs.YtdpabanajgegjaaGreatDoor.I
