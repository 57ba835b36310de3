/- Texts of one place, one behind the other: QtB, QtC. -/
import Derived.Test.YtacelhaidcmbcaaGreatDoorTQtA
import Derived.RegionTactic
import Derived.BigRegion
import Derived.ChangeAlike
import Derived.Deep.LoopGhost
import Derived.Deep.AppendLies
import Derived.Deep.RegionLaw
import Derived.WalkMore
import Derived.Test.YtacelhaidcmbcaaGreatDoorTMMath
set_option maxHeartbeats 8000000
set_option maxRecDepth 1000000
set_option linter.unusedVariables false
namespace Go.Proofs.YtacelhaidcmbcaaGreatDoor
open Go.Lib (hid)
open Go.RowKit M
variable {w w':World} {B p k c V L:Nat} {ao:Option Addr} {most:Int} {S T:Nat→Prop}
theorem z55:(Tryz.prog.info? 5).map (fun i=>(i.zero,i.size,i.bytes))=some (some (.int .u8 0),1,1):=by kernel_rfl
theorem z0d{i j:Nat}{v:Value}(h:i≠j):(w.setCell ⟨p,i,none⟩ v).cell? ⟨p,j,none⟩=w.cell? ⟨p,j,none⟩:=World.cell?_setCell_other w _ _ _ (fun e=>h (by injection e))
theorem z45{i:Nat}{u v:Value}(h:w.cell? ⟨p,i,none⟩=some u):(w.setCell ⟨p,i,none⟩ v).cell? ⟨p,i,none⟩=some v:=World.cell?_setCell_same' w _ _ (by rw[h];rfl)
theorem z44{a b:Addr}{v:Value}(h:w.frozen? b=false):(w.setCell a v).frozen? b=false:=by rw[World.frozen?_setCell];exact h
theorem Wr.keep34(h:Wr w B p most ao c k V L)(x y:Value):Kept (z20 p ao) w ((w.setCell ⟨p,3,none⟩ x).setCell ⟨p,4,none⟩ y):=
 ((Kept.refl _ w).setCell _ (.inl (.inl rfl)) _).setCell _ (.inl (.inl rfl)) _
theorem Wr.put34(h:Wr w B p most ao c k V L){V' L':Nat}(hs:bys V' k=bys V k)(hV:V'<2^L')(hL:8*k≤L')(Y Z:Int)(hY:Y=((V' /256^k:Nat):Int))(hZ:Z=((L' - 8*k:Nat):Int)):
 Wr ((w.setCell ⟨p,3,none⟩ (.int .u64 Y)).setCell ⟨p,4,none⟩ (.int .i64 Z)).drew B p most ao c k V' L':=by
 subst hY hZ;have h0:=h.c0;have h1:=h.c1;have h2:=h.c2;have h3:=h.c3;have h4:=h.c4;have hf:=h.fz
 have hk:Kept (fun j=>j=p) w ((w.setCell ⟨p,3,none⟩ (.int .u64 ((V' /256^k:Nat):Int))).setCell ⟨p,4,none⟩ (.int .i64 ((L' - 8*k:Nat):Int))).drew:=
  (((Kept.refl (fun j=>j=p) w).setCell ⟨p,3,none⟩ (.inl rfl) _).setCell ⟨p,4,none⟩ (.inl rfl) _).drew
 refine⟨(z0d (by decide)).trans ((z0d (by decide)).trans h0),(z0d (by decide)).trans ((z0d (by decide)).trans h1),(z0d (by decide)).trans ((z0d (by decide)).trans h2),(z0d (by decide)).trans (z45 h3),z45 ((z0d (by decide)).trans h4),
  fun i=>z44 (z44 (hf i)),?_,h.ap,h.base,hV,hL⟩
 · rw[hs]
   refine hk.own h.own fun g hg=> ?_
   cases ao with
   |none=>simp[Value.ownBlock] at hg
   |some a=>
    have:=h.ap a rfl;simp[Value.ownBlock] at hg;omega
theorem Wr.row_ne(h:Wr w B p most ao c k V L):¬Value.ownBlock (.slice ao k c)=some p:=by
 intro g1;cases ao with
 |none=>simp[Value.ownBlock] at g1
 |some a=>exact h.ap a rfl (by simpa [Value.ownBlock] using g1)
theorem Wr.pushed{w0 w1:World}{g cap:Nat}(h:Wr w B p most ao c k V L)(hL:8*(k+1)≤L)(hk0:Kept NoB w w0)(hg:w0.grownBy w1 (Value.ownBlock (.slice ao k c)))(hat:Value.ownBlock (.slice ao k c)=some g∨g=w0.heap.size)
 (x:Int) (hx:x=((V/256^k%256:Nat):Int)) (hown:w1.ownsRow B 5 1 (.slice (some ⟨g,0,none⟩) (k+1) cap) (k+1) ((bys V k).map (Value.int .u8)++[.int .u8 x])) (Y Z:Int) (hY:Y=((V/256^(k+1):Nat):Int)) (hZ:Z=((L - 8*(k+1):Nat):Int)):
 Wr (((w1.setCell ⟨p,2,none⟩ (.slice (some ⟨g,0,none⟩) (k+1) cap)).setCell ⟨p,3,none⟩ (.int .u64 Y)).setCell ⟨p,4,none⟩ (.int .i64 Z)) B p most (some ⟨g,0,none⟩) cap (k+1) V L∧
  Kept (z20 p ao) w (((w1.setCell ⟨p,2,none⟩ (.slice (some ⟨g,0,none⟩) (k+1) cap)).setCell ⟨p,3,none⟩ (.int .u64 Y)).setCell ⟨p,4,none⟩ (.int .i64 Z))∧
  (∀j,z20 p (some ⟨g,0,none⟩) j→z20 p ao j∨w.heap.size≤j):=by
 subst hY hZ hx
 have hrow:∀j,Value.ownBlock (.slice ao k c)=some j→z20 p ao j:=by
  intro j hj;cases ao with
  |none=>simp[Value.ownBlock] at hj
  |some a=>exact .inr ⟨a,rfl,by simpa [Value.ownBlock] using hj.symm⟩
 have hg0:z20 p ao g∧g≠p∨w.heap.size≤g:=by
  rcases hat with hat|hat
  · refine .inl ⟨hrow g hat,?_⟩
    cases ao with
    |none=>simp[Value.ownBlock] at hat
    |some a=>
     have:=h.ap a rfl;simp[Value.ownBlock] at hat;omega
  · exact .inr (by rw[hat];exact hk0.size)
 have hgp:g≠p:=by
  rcases hg0 with h0|h0
  · exact h0.2
  · have:=h.lt;omega
 have hk1:Kept (z20 p ao) w w1:=(hk0.none _).grown hg (fun j hj=> .inl (hrow j hj));have hr1:Wr w0 B p most ao c k V L:=h.keep hk0 (fun _ _ g=>g.elim);have hn:Kept (fun j=>Value.ownBlock (.slice ao k c)=some j) w0 w1:=Kept.of_grown hg;have hpn:=h.row_ne;have e0:=hn.cell hr1.c0 hpn;have e1:=hn.cell hr1.c1 hpn;have e2:=hn.cell hr1.c2 hpn;have e3:=hn.cell hr1.c3 hpn;have e4:=hn.cell hr1.c4 hpn;have ef:∀i,w1.frozen? ⟨p,i,none⟩=false:=fun i=>(hn.frozen (a:=⟨p,i,none⟩) hr1.lt hpn).trans (hr1.fz i)
 have hk2:Kept (fun j=>j=p) w1 (((w1.setCell ⟨p,2,none⟩ (.slice (some ⟨g,0,none⟩) (k+1) cap)).setCell ⟨p,3,none⟩ (.int .u64 ((V/256^(k+1):Nat):Int))).setCell ⟨p,4,none⟩ (.int .i64 ((L - 8*(k+1):Nat):Int))):=
  (((Kept.refl (fun j=>j=p) w1).setCell ⟨p,2,none⟩ (.inl rfl) _).setCell ⟨p,3,none⟩ (.inl rfl) _).setCell ⟨p,4,none⟩ (.inl rfl) _
 refine⟨⟨(z0d (by decide)).trans ((z0d (by decide)).trans ((z0d (by decide)).trans e0)),(z0d (by decide)).trans ((z0d (by decide)).trans ((z0d (by decide)).trans e1)),(z0d (by decide)).trans ((z0d (by decide)).trans (z45 e2)),
  (z0d (by decide)).trans (z45 ((z0d (by decide)).trans e3)),z45 ((z0d (by decide)).trans ((z0d (by decide)).trans e4)),fun i=>z44 (z44 (z44 (ef i))),?_,?_,h.base,h.val,hL⟩,hk1.trans hk2 (fun j hj=> .inl (.inl hj)),?_⟩
 · rw[z8o,List.map_append]
   exact hk2.own hown fun i hi=>by
    have:g=i:=by simpa [Value.ownBlock] using hi
    omega
 · intro a ha
   obtain rfl:(⟨g,0,none⟩:Addr)=a:=by simpa using ha
   exact hgp
 · intro j hj
   rcases hj with hj|⟨a,ha,hj⟩
   · exact .inl (.inl hj)
   · obtain rfl:(⟨g,0,none⟩:Addr)=a:=by simpa using ha
     subst hj;rcases hg0 with h0|h0
     · exact .inl h0.1
     · exact .inr h0
theorem put_any(h:Wr w B p most ao c k V L)(h7:L - 8*k≤7)(N s:Nat)(hN:N<2^s)(hs:s≤56)(hL:L≤1000000000):
 Calls Tryz.prog 99 #[.pointer (some ⟨p,0,none⟩),.int .u64 N,.int .i64 s] w fun e w'=>e=.returned (.tuple #[])∧∃ao' c',Wr w' B p most ao' c' ((L+s) /8) (V+N*2^L) (L+s)∧Kept (z20 p ao) w w'∧(∀j,z20 p ao' j→z20 p ao j∨w.heap.size≤j):=by
 obtain⟨i0,hi,hz0,hz1,hz2⟩:=info_parts z55;have c3:=h.c3;have c4:=h.c4;have f3:=h.fz 3;have f4:=h.fz 4;obtain⟨m,hm⟩:∃m,L - 8*k=m:=⟨_,rfl⟩
 rw[hm] at c4 h7;have hor:=zgj h.val h.ge hm h7 hN hs;obtain⟨X,hX⟩:∃X,V/256^k=X:=⟨_,rfl⟩
 obtain⟨Y,hY⟩:∃Y,(V+N*2^L) /256^k=Y:=⟨_,rfl⟩
 rw[hX] at c3 hor;rw[hY] at hor;have HX:=hid hX;have HY:=hid hY;have Hm:=hid hm;have HW:=hid h;clear hX hY hm h;have hm0:0≤(m:Int):=by omega
 go_enter Tryz.func99,Tryz.ntmps99
 go_step3
 go_wp2_with fail
 go_region
 go_wp2_with fail
 go_step3
 go_wp2_with fail
 go_loopg [] ((L+s) /8 - k) (fun g wr=> ∃ao' c' j,k≤j∧g=(L+s) /8 - j∧Wr wr B p most ao' c' j (V+N*2^L) (L+s)∧Kept (z20 p ao) w wr∧(∀i,z20 p ao' i→z20 p ao i∨w.heap.size≤i))
 case atStart=> 
  exact⟨ao,c,k,qR,rfl,HW.out.put34 (zec HW.out.ge) (zb0 HW.out.val hN) (by have:=HW.out.ge;omega) _ _ (by rw[HY.out]) (by have:=HW.out.ge;have:=Hm.out;omega),(HW.out.keep34 _ _).drew,fun i hi=> .inl hi⟩
 case round=>
  obtain⟨ao',c',j,hkj,rfl,hr,hkp,hft⟩:=hrel;have d2:=hr.c2;have d3:=hr.c3;have d4:=hr.c4;have g2:=hr.fz 2;have g3:=hr.fz 3;have g4:=hr.fz 4;have hge:=hr.ge;obtain⟨q,hq⟩:∃q,L+s - 8*j=q:=⟨_,rfl⟩
  obtain⟨X',hX'⟩:∃X',(V+N*2^L) /256^j=X':=⟨_,rfl⟩
  rw[hq] at d4;rw[hX'] at d3;have HX':=hid hX';have Hq:=hid hq;have HR:=hid hr;have HK:=hid hkp;have HF:=hid hft;clear hX' hr hkp hft c3 c4 f3 f4 hor;by_cases hlt:q<8
  · have hlt':decide ((q:Int)<8)=true:=by simp;omega
    have Hj:=hid (show j=(L+s) /8 by omega);clear hq;go_wp2_with fail;rw[Exit.noGoto_normal];go_end0;exact⟨rfl,ao',c',by rw[←Hj.out];exact HR.out,HK.out,HF.out⟩
  · have hlt':decide ((q:Int)<8)=false:=by simp;omega
    clear hq;have h8:8≤(q:Int):=by omega
    have h9:(q:Int)≤2000000000:=by have:=Hq.out;omega
    have hown:=HR.out.own;have hlen:j≤1000000000:=by omega
    have hbase:=HR.out.base;have hplt:=HR.out.lt;go_wp2_with fail
    go_region_law (refine step_append_lies _ rfl (.tmp 36) (.tmp 42) 40 rfl B 5 i0 (.int .u8 0) 1 1 Tryz.underlying40 hi hz0 hz1 hz2 rfl (by decide) (.slice ao' j c') j ((bys (V+N*2^L) j).map (Value.int .u8)) (by simp[Act.eval]) (World.ownsRow.alloc (w:=wr.drew) hown _) ⟨wr.heap.size,0,none⟩ 1 1 [.int .u8 (IntKind.u8.wrap (X':Int))] (by simp[Act.eval]) rfl (by intro i u hi;match i,hi with|0,hi=>(simp at hi;subst hi;simp[Addr.add])) (by intro u hu;simp at hu;subst hu;rfl) (by decide) (by unfold maxLen;omega) (by omega) (by simp;omega) (wr.heap.size+1) (by simp) ?_;intro g cap w1 hown1 hgrow hat hlt1;have hn:=((Kept.refl (fun i=>Value.ownBlock (.slice ao' j c')=some i) wr).drew.alloc _).grown hgrow (fun i hi=> .inl hi);have hpn:=HR.out.row_ne;have k2:=hn.cell d2 hpn;have k3:=hn.cell d3 hpn;have k4:=hn.cell d4 hpn;have k2f:=(hn.frozen (a:=⟨p,2,none⟩) hplt hpn).trans g2;have k3f:=(hn.frozen (a:=⟨p,3,none⟩) hplt hpn).trans g3;have k4f:=(hn.frozen (a:=⟨p,4,none⟩) hplt hpn).trans g4;have HO:=hid hown1;have HG:=hid hgrow;have HA:=hid hat;clear hn hpn hown1 hgrow hat)
    all_goals
     clear hown;go_wp2_with fail
     go_roundg ((L+s) /8 - (j+1))
     case measure=>have:=Hq.out;omega
     case rel=>
      have R:=HR.out.pushed (w0:=wr.drew.alloc _) (by have:=Hq.out;omega) ((Kept.refl NoB wr).drew.alloc _) HG.out (HA.out.imp id (fun e=>by rw[e];simp)) _ (by rw[HX'.out,IntKind.wrap_u8];rfl) HO.out ((X':Int) /256) ((q:Int) - 8) (by rw[←ze2,HX'.out];rfl) (by have:=Hq.out;omega);exact⟨_,cap,j+1,by omega,rfl,R.1,HK.out.trans R.2.1 HF.out,fun i hi=>(R.2.2 i hi).elim (fun g=>HF.out i g) (fun g=> .inr (qK HK.out.size g))⟩
end Go.Proofs.YtacelhaidcmbcaaGreatDoor
namespace Go.Proofs.YtacelhaidcmbcaaGreatDoor
open Go.Lib (hid)
open Go.RowKit M
variable {w w':World} {B p k c V L:Nat} {ao:Option Addr} {most:Int} {S T:Nat→Prop}
theorem Wr.drewN(h:Wr w B p most ao c k V L)(n:Nat):Wr (w.drewN n) B p most ao c k V L:=h.keep ((Kept.refl NoB w).drewN n) (fun _ _ g=>g)
theorem zda(h:Wr w B p most ao c k V L)(hk:k≤1000000000)(hL:L≤1000000000)(n:Nat):
 Calls Tryz.prog 68 #[.pointer (some ⟨p,0,none⟩)] (w.drewN n) fun e w'=>e=.returned (.int .i64 L)∧∃n,w'=w.drewN n:=Calls.quiet_of (z1O (h.drewN n) hk hL)
theorem z1j(n Q:Nat)(w:World)(m:Nat)(h:n≤4611686018427387000)(hQ:(n+7) /8=Q):
 Calls Tryz.prog 98 #[.int .i64 n] (w.drewN m) fun e w'=>e=.returned (.int .i64 Q)∧∃n,w'=w.drewN n:=by
 subst hQ;exact(z7e n (w.drewN m) h).mono fun _ _ ⟨he,hw⟩=>⟨he,m,hw.symm⟩
def Did(w:World)(B p:Nat)(S:Nat→Prop)(most:Int)(r:Int×Nat×Nat)(e:Ending)(w':World):Prop:=
 e=.returned (.int .i64 r.1)∧∃S',Wt w' B p S' most r.2.1 r.2.2∧Kept S w w'∧∀j,S' j→S j∨w.heap.size≤j
theorem Did.same(h:Wt w B p S most V L)(r:Int)(n:Nat):Did w B p S most (r,V,L) (.returned (.int .i64 r)) (w.drewN n):=
 ⟨rfl,S,h.keep ((Kept.refl NoB w).drewN n) (fun _ _ g=>g),(Kept.refl S w).drewN n,fun _ g=> .inl g⟩
theorem zen(h:Wt w B p S most V L)(N s:Nat)(hL:L≤900000000)(hs:s≤56)(hN:N<2^s)(hm:(((L+s+7) /8:Nat):Int)≤most):
 Calls Tryz.prog 66 #[.pointer (some ⟨p,0,none⟩),.int .u64 N,.int .i64 s] w (Did w B p S most (0,V+N*2^L,L+s)):=by
 obtain⟨ao,c,h,hS⟩:=h;have c0:=h.c0;have c1:=h.c1;obtain⟨T,hT⟩:∃T,L+s=T:=⟨_,rfl⟩
 obtain⟨Q,hQ⟩:∃Q,(T+7) /8=Q:=⟨_,rfl⟩
 rw[hT,hQ] at hm;have hw:IntKind.i64.wrap ((L:Int)+(s:Int))=(T:Int):=by rw[IntWalk.i64_in _ ⟨by omega,by omega⟩];omega
 have HT:=hid hT;have HQ:=hid hQ;have HS:=hid hS;have HH:=hid h;have hT2:T≤1000000000:=by omega
 have hL8:L/8≤1000000000:=by omega
 clear hT hQ hS h;go_enter Tryz.func66,Tryz.ntmps66;go_wp2_with (go_at_call 46;refine(z0h p _ c0).mono ?_;rintro e w' ⟨rfl,rfl⟩);refine(zb2 N s _ hs hN).mono ?_;rintro e w' ⟨rfl,rfl⟩;go_wp2_with fail
 go_quiet (first|(go_at_call 68;exact zda HH.out hL8 (by omega) _)|(go_at_call 98;exact z1j T Q _ _ (by omega) HQ.out))
 go_wp2_with fail;refine(put_any (HH.out.drewN nq) (by have:=HH.out.ge;omega) N s hN hs (by omega)).mono ?_;rintro e w2 ⟨rfl,ao2,c2,r1,r2,r3⟩;have R1:=hid r1;have R2:=hid r2;have R3:=hid r3;clear r1 r2 r3;go_wp2_with fail;go_ret;exact⟨rfl,z20 p ao2,⟨ao2,c2,R1.out,fun _=>Iff.rfl⟩,(((Kept.refl (z20 p ao) w).drewN nq).trans R2.out (fun j hj=> .inl hj)).mono (fun j hj=>(HS.out j).2 hj),fun j hj=>(R3.out j hj).imp (HS.out j).2 id⟩
theorem zck(h:Wt w B p S most V L)(N s:Nat)(hL:L≤900000000)(hs:s≤56)(hN:N<2^s)(hm:¬(((L+s+7) /8:Nat):Int)≤most):
 Calls Tryz.prog 66 #[.pointer (some ⟨p,0,none⟩),.int .u64 N,.int .i64 s] w (Did w B p S most (4,V,L)):=by
 have H0:=hid h;obtain⟨ao,c,h,hS⟩:=h;have c0:=h.c0;have c1:=h.c1;obtain⟨T,hT⟩:∃T,L+s=T:=⟨_,rfl⟩
 obtain⟨Q,hQ⟩:∃Q,(T+7) /8=Q:=⟨_,rfl⟩
 rw[hT,hQ] at hm;have hm2:most<(Q:Int):=by omega
 clear hm;have hw:IntKind.i64.wrap ((L:Int)+(s:Int))=(T:Int):=by rw[IntWalk.i64_in _ ⟨by omega,by omega⟩];omega
 have HT:=hid hT;have HQ:=hid hQ;have HS:=hid hS;have HH:=hid h;have hT2:T≤1000000000:=by omega
 have hL8:L/8≤1000000000:=by omega
 clear hT hQ hS h;go_enter Tryz.func66,Tryz.ntmps66;go_wp2_with (go_at_call 46;refine(z0h p _ c0).mono ?_;rintro e w' ⟨rfl,rfl⟩);refine(zb2 N s _ hs hN).mono ?_;rintro e w' ⟨rfl,rfl⟩;go_wp2_with fail
 go_quiet (first|(go_at_call 68;exact zda HH.out hL8 (by omega) _)|(go_at_call 98;exact z1j T Q _ _ (by omega) HQ.out))
 go_wp2_with fail;go_ret;exact Did.same H0.out 4 nq
theorem zeo(h:Wt w B p S most V L)(n x:Int)(h0:0≤n)(hx:¬(0≤x∧x≤56∧n.toNat<2^x.toNat)):
 Calls Tryz.prog 66 #[.pointer (some ⟨p,0,none⟩),.int .u64 n,.int .i64 x] w (Did w B p S most (2,V,L)):=by
 have H0:=hid h;obtain⟨ao,c,h,hS⟩:=h;have c0:=h.c0;have HX:=hid hx;clear h hS hx;go_enter Tryz.func66,Tryz.ntmps66;go_wp2_with (go_at_call 46;refine(z0h p _ c0).mono ?_;rintro e w' ⟨rfl,rfl⟩);refine(zhY n x _ h0 HX.out).mono ?_;rintro e w' ⟨rfl,rfl⟩;go_wp2_with fail;go_ret;exact Did.same H0.out 2 0
theorem bits_any(h:Wt w B p S most V L)(n x:Int)(h0:0≤n)(hL:L≤900000000):
 Calls Tryz.prog 66 #[.pointer (some ⟨p,0,none⟩),.int .u64 n,.int .i64 x] w (Did w B p S most (z5l most V L n.toNat x)):=by
 by_cases hx:0≤x∧x≤56∧n.toNat<2^x.toNat
 · obtain⟨N,rfl⟩:=Int.eq_ofNat_of_zero_le h0
   obtain⟨s,rfl⟩:=Int.eq_ofNat_of_zero_le hx.1;obtain⟨_,h2,h3⟩:=hx;rw[Int.toNat_natCast,Int.toNat_natCast] at h3;rw[Int.toNat_natCast];by_cases hm:(((L+s+7) /8:Nat):Int)≤most
   · rw[z3v (by omega) h3 hm]
     exact zen h N s hL (by omega) h3 hm
   · rw[z2r (by omega) h3 hm]
     exact zck h N s hL (by omega) h3 hm
 · rw[zcl hx]
   exact zeo h n x h0 hx
theorem Did.from{w0:World}{r:Int×Nat×Nat}{e:Ending}(hk:Kept NoB w w0)(h:Did w0 B p S most r e w'):Did w B p S most r e w':=by
 obtain⟨he,S',h1,h2,h3⟩:=h;exact⟨he,S',h1,(hk.none S).trans h2 (fun j hj=> .inl hj),fun j hj=>(h3 j hj).imp id (fun g=>qK hk.size g)⟩
theorem code_any(h:Wt w B p S most V L)(n x:Int)(h0:0≤n∧n≤4294967295)(hx:0≤x∧x≤255)(hL:L≤900000000):
 Calls Tryz.prog 107 #[.pointer (some ⟨p,0,none⟩),.agg #[.int .u32 n,.int .u8 x]] w (Did w B p S most (z5l most V L n.toNat x)):=by
 have H0:=hid h;clear h;have h1:=h0.1;have h2:=h0.2;have h3:=hx.1;have h4:=hx.2;clear h0 hx;go_enter Tryz.func107,Tryz.ntmps107;go_wp2_with fail;refine(bits_any (H0.out.keep ((Kept.refl NoB w).alloc _) (fun _ _ g=>g)) n x h1 hL).mono ?_;rintro e w2 ⟨rfl,r⟩;have R:=hid r;clear r;go_wp2_with fail;go_ret;exact Did.from ((Kept.refl NoB w).alloc _) ⟨rfl,R.out⟩
theorem zdc(h:Wr w B p most ao c k V L)(h7:L - 8*k≤7)(s:Nat)(hs:s≤56)(hL:L≤1000000000):
 Calls Tryz.prog 99 #[.pointer (some ⟨p,0,none⟩),.int .u64 0,.int .i64 s] w fun e w'=>e=.returned (.tuple #[])∧∃ao' c',Wr w' B p most ao' c' ((L+s) /8) V (L+s)∧Kept (z20 p ao) w w'∧(∀j,z20 p ao' j→z20 p ao j∨w.heap.size≤j):=by
 have g:=put_any h h7 0 s (Nat.two_pow_pos s) hs hL;rw[Nat.zero_mul,Nat.add_zero] at g;exact g
theorem align_any(h:Wt w B p S most V L)(hL:L≤900000000):
 Calls Tryz.prog 125 #[.pointer (some ⟨p,0,none⟩)] w (Did w B p S most (0,V,z0m L)):=by
 obtain⟨ao,c,h,hS⟩:=h;have c0:=h.c0;obtain⟨Q,hQ⟩:∃Q,(L+7) /8=Q:=⟨_,rfl⟩
 obtain⟨D,hD⟩:∃D,8*Q - L=D:=⟨_,rfl⟩
 have hw:(Q:Int)*8 - (L:Int)=(D:Int):=by omega
 have HD:=hid (show L+D=z0m L by unfold z0m;omega);have hD7:D≤7:=by omega
 have hQ0:Q≤200000000:=by omega
 have HQ:=hid hQ;have HS:=hid hS;have HH:=hid h;have hL8:L/8≤1000000000:=by omega
 clear hD hQ hS h;go_enter Tryz.func125,Tryz.ntmps125;go_wp2_with (go_at_call 46;refine(z0h p _ c0).mono ?_;rintro e w' ⟨rfl,rfl⟩);refine(z1O HH.out hL8 (by omega)).mono ?_;rintro e w' ⟨rfl,n1,rfl⟩;go_wp2_with fail;refine(z1j L Q _ _ (by omega) HQ.out).mono ?_;rintro e w' ⟨rfl,n2,rfl⟩;go_wp2_with fail;refine(z1O (HH.out.drewN n2) hL8 (by omega)).mono ?_;rintro e w' ⟨rfl,n3,rfl⟩;go_wp2_with fail;refine(zdc (HH.out.drewN (n2+n3)) (by have:=HH.out.ge;omega) D (by omega) (by omega)).mono ?_;rintro e w2 ⟨rfl,ao2,c2,r1,r2,r3⟩;have R1:=hid r1;have R2:=hid r2;have R3:=hid r3;clear r1 r2 r3;go_wp2_with fail;go_ret;exact⟨rfl,z20 p ao2,⟨ao2,c2,by rw[←HD.out];exact R1.out,fun _=>Iff.rfl⟩,(((Kept.refl (z20 p ao) w).drewN (n2+n3)).trans R2.out (fun j hj=> .inl hj)).mono (fun j hj=>(HS.out j).2 hj),fun j hj=>(R3.out j hj).imp (HS.out j).2 id⟩
theorem Wr.strung{w1:World}{q:Nat}{s:ByteArray}{ao2:Option Addr}{c2:Nat}(h:Wr w B p most ao c q V (8*q))(hg:w.grownBy w1 (Value.ownBlock (.slice ao q c)))(hat:∀a,ao2=some a→Value.ownBlock (.slice ao q c)=some a.block∨w.heap.size≤a.block)
 (hown:w1.ownsRow B 5 1 (.slice ao2 (q+s.size) c2) (q+s.size) ((bys V q).map (Value.int .u8)++Lib.strCells s)):
 Wr (w1.setCell ⟨p,2,none⟩ (.slice ao2 (q+s.size) c2)) B p most ao2 c2 (q+s.size) (V+vl s.data.toList*2^(8*q)) (8*q+8*s.size)∧
  Kept (z20 p ao) w (w1.setCell ⟨p,2,none⟩ (.slice ao2 (q+s.size) c2))∧(∀j,z20 p ao2 j→z20 p ao j∨w.heap.size≤j):=by
 have hrow:∀j,Value.ownBlock (.slice ao q c)=some j→z20 p ao j:=by
  intro j hj;cases ao with
  |none=>simp[Value.ownBlock] at hj
  |some a=>exact .inr ⟨a,rfl,by simpa [Value.ownBlock] using hj.symm⟩
 have hpn:=h.row_ne;have hn:Kept (fun j=>Value.ownBlock (.slice ao q c)=some j) w w1:=Kept.of_grown hg;have e0:=hn.cell h.c0 hpn;have e1:=hn.cell h.c1 hpn;have e2:=hn.cell h.c2 hpn;have e3:=hn.cell h.c3 hpn;have e4:=hn.cell h.c4 hpn;have hk1:Kept (z20 p ao) w w1:=(Kept.refl _ w).grown hg (fun j hj=> .inl (hrow j hj))
 have hap:∀a,ao2=some a→a.block≠p:=by
  intro a ha e;rcases hat a ha with g|g
  · exact hpn (by rw[←e];exact g)
  · have:=h.lt;omega
 have hv:V<256^q:=by rw[zhP];exact h.val
 have hvl:=ziJ s.data.toList;rw[z1i,zhP] at hvl;have hv2:=zb0 (N:=vl s.data.toList) h.val hvl;have z1:V/256^q=0:=Nat.div_eq_of_lt hv;have z2:(V+vl s.data.toList*2^(8*q)) /256^(q+s.size)=0:=Nat.div_eq_of_lt (by rw[zhP,Nat.mul_add];exact hv2);have hk2:Kept (fun j=>j=p) w1 (w1.setCell ⟨p,2,none⟩ (.slice ao2 (q+s.size) c2)):=(Kept.refl (fun j=>j=p) w1).setCell ⟨p,2,none⟩ (.inl rfl) _
 refine⟨⟨(z0d (by decide)).trans e0,(z0d (by decide)).trans e1,z45 e2,(z0d (by decide)).trans (by rw[z2,e3,z1]),(z0d (by decide)).trans (by rw[e4];congr 2;omega),
  fun i=>z44 ((hn.frozen (a:=⟨p,i,none⟩) h.lt hpn).trans (h.fz i)),?_,hap,h.base,hv2,by omega⟩,hk1.trans hk2 (fun j hj=> .inl (.inl hj)),?_⟩
 · rw[←zhP,←z9p V q s hv]
   refine hk2.own hown fun i hi g=> ?_
   cases ao2 with
   |none=>simp[Value.ownBlock] at hi
   |some a=>
    have:=hap a rfl;simp[Value.ownBlock] at hi;omega
 · intro j hj
   rcases hj with hj|⟨a,ha,hj⟩
   · exact .inl (.inl hj)
   · subst hj
     rcases hat a ha with g|g
     · exact .inl (hrow _ g)
     · exact .inr g
theorem zcb(h:Wt w B p S most V L)(s:ByteArray)(hL:L≤900000000)(hs:s.size≤100000000)(hm:(((L+7) /8+s.size:Nat):Int)≤most):
 Calls Tryz.prog 126 #[.pointer (some ⟨p,0,none⟩),.string s] w (Did w B p S most (0,V+vl s.data.toList*2^z0m L,z0m L+8*s.size)):=by
 obtain⟨i0,hi,hz0,hz1,hz2⟩:=info_parts z55;have H0:=hid h;obtain⟨ao,c,h,hS⟩:=h;have c0:=h.c0;have c1:=h.c1;obtain⟨Q,hQ⟩:∃Q,(L+7) /8=Q:=⟨_,rfl⟩
 rw[hQ] at hm;have hm2:(Q:Int)+(s.size:Int)≤most:=by omega
 have hw:IntKind.i64.wrap ((Q:Int)+(s.size:Int))=(Q:Int)+(s.size:Int):=by rw[IntWalk.i64_in _ ⟨by omega,by omega⟩]
 have HA:=hid (show z0m L=8*Q by unfold z0m;omega);have HQ:=hid hQ;have HS:=hid hS;have HH:=hid h;have hL8:L/8≤1000000000:=by omega
 have hQ9:Q≤200000000:=by omega
 clear hQ hS h hm;go_enter Tryz.func126,Tryz.ntmps126;go_wp2_with (go_at_call 46;refine(z0h p _ c0).mono ?_;rintro e w' ⟨rfl,rfl⟩)
 go_quiet (first|(go_at_call 68;exact zda HH.out hL8 (by omega) _)|(go_at_call 98;exact z1j L Q _ _ (by omega) HQ.out))
 go_wp2_with fail;refine(align_any (H0.out.keep ((Kept.refl NoB w).drewN nq) (fun _ _ g=>g)) hL).mono ?_;rintro e w2 ⟨rfl,S2,⟨ao2,c2,r1,r2⟩,r3,r4⟩
 have r1':Wr w2 B p most ao2 c2 Q V (8*Q):=by
  have:Wr w2 B p most ao2 c2 (z0m L/8) V (z0m L):=r1;rw[HA.out] at this
  rwa [show 8*Q/8=Q by omega] at this
 have d2:=r1'.c2;have d2f:=r1'.fz 2;have hown:=r1'.own;have hbase:B≤w2.heap.size:=by have:=r1'.base;have:=r1'.lt;omega
 have hpl:=r1'.lt;have hpn:=r1'.row_ne;have R1:=hid r1';have R2:=hid r2;have R3:=hid r3;have R4:=hid r4;clear r1 r1' r2 r3 r4;go_wp2_with (at_builtin;refine z1w rfl (.tmp 25) (.tmp 26) 40 9 rfl B 5 i0 Tryz.underlying40 Tryz.underlying9 hi hz0 hz1 hz2 _ Q _ rfl hown s rfl (by omega) hbase ?_);intro ao3 c3 w3 hown3 hg3 hat3;have hn:Kept (fun j=>Value.ownBlock (.slice ao2 Q c2)=some j) w2 w3:=Kept.of_grown hg3;have e2:=hn.cell d2 hpn;have e2f:=(hn.frozen (a:=⟨p,2,none⟩) hpl hpn).trans d2f;have HO:=hid hown3;have HG:=hid hg3;have HT:=hid hat3;clear hn hown hown3 hg3 hat3 d2 d2f hpn;go_wp2_with fail;go_ret;have R:=R1.out.strung HG.out HT.out HO.out;refine⟨rfl,z20 p ao3,⟨ao3,c3,?_,fun _=>Iff.rfl⟩,(((Kept.refl S w).drewN nq).trans R3.out (fun j hj=> .inl hj)).trans (R.2.1.mono (fun j hj=>(R2.out j).2 hj)) (fun j hj=>R4.out j hj),fun j hj=> ?_⟩
 · show Wr _ B p most ao3 c3 ((z0m L+8*s.size) /8) (V+vl s.data.toList*2^z0m L) (z0m L+8*s.size)
   rw[HA.out,show(8*Q+8*s.size) /8=Q+s.size by omega];exact R.1
 · rcases R.2.2 j hj with g|g
   · exact R4.out j ((R2.out j).2 g)
   · exact .inr (qK R3.out.size g)
theorem z9s(h:Wt w B p S most V L)(s:ByteArray)(hL:L≤900000000)(hs:s.size≤100000000)(hm:¬(((L+7) /8+s.size:Nat):Int)≤most):
 Calls Tryz.prog 126 #[.pointer (some ⟨p,0,none⟩),.string s] w (Did w B p S most (4,V,L)):=by
 have H0:=hid h;obtain⟨ao,c,h,hS⟩:=h;have c0:=h.c0;have c1:=h.c1;obtain⟨Q,hQ⟩:∃Q,(L+7) /8=Q:=⟨_,rfl⟩
 rw[hQ] at hm;have hm2:most<(Q:Int)+(s.size:Int):=by omega
 have hw:IntKind.i64.wrap ((Q:Int)+(s.size:Int))=(Q:Int)+(s.size:Int):=by rw[IntWalk.i64_in _ ⟨by omega,by omega⟩]
 have HQ:=hid hQ;have HH:=hid h;have hL8:L/8≤1000000000:=by omega
 clear hQ hS h hm;go_enter Tryz.func126,Tryz.ntmps126;go_wp2_with (go_at_call 46;refine(z0h p _ c0).mono ?_;rintro e w' ⟨rfl,rfl⟩)
 go_quiet (first|(go_at_call 68;exact zda HH.out hL8 (by omega) _)|(go_at_call 98;exact z1j L Q _ _ (by omega) HQ.out))
 go_wp2_with fail;go_ret;exact Did.same H0.out 4 nq
theorem bytes_any(h:Wt w B p S most V L)(s:ByteArray)(hL:L≤900000000)(hs:s.size≤100000000):
 Calls Tryz.prog 126 #[.pointer (some ⟨p,0,none⟩),.string s] w (Did w B p S most (zcc most V L s)):=by
 by_cases hm:(((L+7) /8+s.size:Nat):Int)≤most
 · rw[z4n hm]
   exact zcb h s hL hs hm
 · rw[z3t hm]
   exact z9s h s hL hs hm
end Go.Proofs.YtacelhaidcmbcaaGreatDoor
