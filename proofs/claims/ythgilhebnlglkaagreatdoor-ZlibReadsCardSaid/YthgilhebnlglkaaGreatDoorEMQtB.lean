import Derived.Test.YthgilhebnlglkaaGreatDoorEMMath
import Derived.Deep.LoopGhost
import Derived.Deep.RegionLaw
set_option linter.all false
set_option maxHeartbeats 8000000
set_option maxRecDepth 1000000
open Go.Proofs.Tryz
namespace Go.Proofs.YthgilhebnlglkaaGreatDoor
open Go.RowKit M
variable {w w':World} {B p k c V L:Nat} {ao:Option Addr} {most:Int} {S T:Nat->Prop}
theorem z6C:(prog.info? 5).map (λi=>(i.zero,i.size,i.bytes))=some (some (.int .u8 0),1,1):=by kernel_rfl
theorem z0q{i j:Nat}{v:Value}(h:i≠j):(w.setCell ⟨p,i,none⟩ v).cell? ⟨p,j,none⟩=w.cell? ⟨p,j,none⟩:=World.cell?_setCell_other w _ _ _ (λe=>h (by injection e))
theorem z5j{i:Nat}{u v:Value}(h:w.cell? ⟨p,i,none⟩=some u):(w.setCell ⟨p,i,none⟩ v).cell? ⟨p,i,none⟩=some v:=World.cell?_setCell_same' w _ _ (by rw[h];rfl)
theorem z5i{a b:Addr}{v:Value}(h:w.frozen? b=false):(w.setCell a v).frozen? b=false:=by rw[World.frozen?_setCell];exact h
theorem Wr.keep34(h:Wr w B p most ao c k V L)(x y:Value):Kept (z50 p ao) w ((w.setCell ⟨p,3,none⟩ x).setCell ⟨p,4,none⟩ y):=
 ((Kept.refl _ w).setCell _ (.inl (.inl rfl)) _).setCell _ (.inl (.inl rfl)) _
theorem Wr.put34(h:Wr w B p most ao c k V L){V' L':Nat}(hs:bys V' k=bys V k)(hV:V'<2^L')(hL:8*k<=L')(Y Z:Int)(hY:Y=((V' /256^k:Nat):Int))(hZ:Z=((L' - 8*k:Nat):Int)):
 Wr ((w.setCell ⟨p,3,none⟩ (.int .u64 Y)).setCell ⟨p,4,none⟩ (.int .i64 Z)).drew B p most ao c k V' L':=by
 subst hY hZ;have h0:=h.c0;have h1:=h.c1;have h2:=h.c2;have h3:=h.c3;have h4:=h.c4;have hf:=h.fz
 have hk:Kept (λj=>j=p) w ((w.setCell ⟨p,3,none⟩ (.int .u64 ((V' /256^k:Nat):Int))).setCell ⟨p,4,none⟩ (.int .i64 ((L' - 8*k:Nat):Int))).drew:=
  (((Kept.refl (λj=>j=p) w).setCell ⟨p,3,none⟩ (.inl rfl) _).setCell ⟨p,4,none⟩ (.inl rfl) _).drew
 refine⟨(z0q (by decide)).trans ((z0q (by decide)).trans h0),(z0q (by decide)).trans ((z0q (by decide)).trans h1),(z0q (by decide)).trans ((z0q (by decide)).trans h2),(z0q (by decide)).trans (z5j h3),z5j ((z0q (by decide)).trans h4),
  λi=>z5i (z5i (hf i)),?_,h.ap,h.base,hV,hL⟩
 · rw[hs]
   refine hk.own h.own λg hg=> ?_
   cases ao with
   |none=>simp[Value.ownBlock] at hg
   |some a=>
    have:=h.ap a rfl;simp[Value.ownBlock] at hg;omega
theorem Wr.row_ne(h:Wr w B p most ao c k V L):¬Value.ownBlock (.slice ao k c)=some p:=by
 intro g1;cases ao with
 |none=>simp[Value.ownBlock] at g1
 |some a=>exact h.ap a rfl (by simpa [Value.ownBlock] using g1)
theorem Wr.pushed{w0 w1:World}{g cap:Nat}(h:Wr w B p most ao c k V L)(hL:8*(k+1)<=L)(hk0:Kept NoB w w0)(hg:w0.grownBy w1 (Value.ownBlock (.slice ao k c)))(hat:Value.ownBlock (.slice ao k c)=some g\/g=w0.heap.size)
 (x:Int) (hx:x=((V/256^k%256:Nat):Int)) (hown:w1.ownsRow B 5 1 (.slice (some ⟨g,0,none⟩) (k+1) cap) (k+1) ((bys V k).map (Value.int .u8)++[.int .u8 x])) (Y Z:Int) (hY:Y=((V/256^(k+1):Nat):Int)) (hZ:Z=((L - 8*(k+1):Nat):Int)):
 Wr (((w1.setCell ⟨p,2,none⟩ (.slice (some ⟨g,0,none⟩) (k+1) cap)).setCell ⟨p,3,none⟩ (.int .u64 Y)).setCell ⟨p,4,none⟩ (.int .i64 Z)) B p most (some ⟨g,0,none⟩) cap (k+1) V L/\
  Kept (z50 p ao) w (((w1.setCell ⟨p,2,none⟩ (.slice (some ⟨g,0,none⟩) (k+1) cap)).setCell ⟨p,3,none⟩ (.int .u64 Y)).setCell ⟨p,4,none⟩ (.int .i64 Z))/\
  (∀j,z50 p (some ⟨g,0,none⟩) j->z50 p ao j\/w.heap.size<=j):=by
 subst hY hZ hx;have hrow:∀j,Value.ownBlock (.slice ao k c)=some j->z50 p ao j:=by
  intro j hj;cases ao with
  |none=>simp[Value.ownBlock] at hj
  |some a=>exact .inr ⟨a,rfl,by simpa [Value.ownBlock] using hj.symm⟩
 have hg0:z50 p ao g/\g≠p\/w.heap.size<=g:=by
  rcases hat with hat|hat
  · refine .inl ⟨hrow g hat,?_⟩
    cases ao with
    |none=>simp[Value.ownBlock] at hat
    |some a=>
     have:=h.ap a rfl;simp[Value.ownBlock] at hat;omega
  · exact .inr (by rw[hat];exact hk0.size)
 have hgp:g≠p:=by
  rcases hg0 with h0|h0
  · exact h0.2
  · have:=h.lt;omega
 have hk1:Kept (z50 p ao) w w1:=(hk0.none _).grown hg (λj hj=> .inl (hrow j hj));have hr1:Wr w0 B p most ao c k V L:=h.keep hk0 (λ_ _ g=>g.elim);have hn:Kept (λj=>Value.ownBlock (.slice ao k c)=some j) w0 w1:=Kept.of_grown hg;have hpn:=h.row_ne;have e0:=hn.cell hr1.c0 hpn;have e1:=hn.cell hr1.c1 hpn;have e2:=hn.cell hr1.c2 hpn;have e3:=hn.cell hr1.c3 hpn;have e4:=hn.cell hr1.c4 hpn;have ef:∀i,w1.frozen? ⟨p,i,none⟩=false:=λi=>(hn.frozen (a:=⟨p,i,none⟩) hr1.lt hpn).trans (hr1.fz i)
 have hk2:Kept (λj=>j=p) w1 (((w1.setCell ⟨p,2,none⟩ (.slice (some ⟨g,0,none⟩) (k+1) cap)).setCell ⟨p,3,none⟩ (.int .u64 ((V/256^(k+1):Nat):Int))).setCell ⟨p,4,none⟩ (.int .i64 ((L - 8*(k+1):Nat):Int))):=
  (((Kept.refl (λj=>j=p) w1).setCell ⟨p,2,none⟩ (.inl rfl) _).setCell ⟨p,3,none⟩ (.inl rfl) _).setCell ⟨p,4,none⟩ (.inl rfl) _
 refine⟨⟨(z0q (by decide)).trans ((z0q (by decide)).trans ((z0q (by decide)).trans e0)),(z0q (by decide)).trans ((z0q (by decide)).trans ((z0q (by decide)).trans e1)),(z0q (by decide)).trans ((z0q (by decide)).trans (z5j e2)),
  (z0q (by decide)).trans (z5j ((z0q (by decide)).trans e3)),z5j ((z0q (by decide)).trans ((z0q (by decide)).trans e4)),λi=>z5i (z5i (z5i (ef i))),?_,?_,h.base,h.val,hL⟩,hk1.trans hk2 (λj hj=> .inl (.inl hj)),?_⟩
 · rw[z88,List.map_append]
   exact hk2.own hown λi hi=>by
    have:g=i:=(by simpa [Value.ownBlock] using hi);omega
 · intro a ha
   obtain rfl:(⟨g,0,none⟩:Addr)=a:=by simpa using ha
   exact hgp
 · intro j hj
   rcases hj with hj|⟨a,ha,hj⟩
   · exact .inl (.inl hj)
   · obtain rfl:(⟨g,0,none⟩:Addr)=a:=by simpa using ha
     subst hj;rcases hg0 with h0|h0
     · exact .inl h0.1
     · exact .inr h0
theorem zgH(h:Wr w B p most ao c k V L)(h7:L - 8*k<=7)(N s:Nat)(hN:N<2^s)(hs:s<=56)(hL:L<=1000000000):
 Calls prog 237 #[.pointer (some ⟨p,0,none⟩),.int .u64 N,.int .i64 s] w λe w'=>e=.returned (.tuple #[])/\∃ao' c',Wr w' B p most ao' c' ((L+s) /8) (V+N*2^L) (L+s)/\Kept (z50 p ao) w w'/\(∀j,z50 p ao' j->z50 p ao j\/w.heap.size<=j):=by
 obtain⟨i0,hi,hz0,hz1,hz2⟩:=info_parts z6C;have c3:=h.c3;have c4:=h.c4;have f3:=h.fz 3;have f4:=h.fz 4;generalize hm:L - 8*k=m at c4 h7;have hor:=zgV h.val h.ge hm h7 hN hs;obtain⟨X,hX⟩:∃X,V/256^k=X:=⟨_,rfl⟩
 obtain⟨Y,hY⟩:∃Y,(V+N*2^L) /256^k=Y:=⟨_,rfl⟩
 rw[hX] at c3 hor;rw[hY] at hor;obtain⟨HY,Hm,HW⟩:=qh3 hY hm h;clear hX hY hm h;go_enter func237,ntmps237
 go_step3
 go_wp2_with fail
 go_region
 go_wp2_with fail
 go_step3
 go_wp2_with fail
 go_loopg [] ((L+s) /8 - k) (λg wr=> ∃ao' c' j,k<=j/\g=(L+s) /8 - j/\Wr wr B p most ao' c' j (V+N*2^L) (L+s)/\Kept (z50 p ao) w wr/\(∀i,z50 p ao' i->z50 p ao i\/w.heap.size<=i))
 case atStart=> 
  exact⟨ao,c,k,qR,rfl,HW.o.put34 (zeF HW.o.ge) (zh0 HW.o.val hN) (by have:=HW.o.ge;omega) _ _ (by rw[HY.o]) (by have:=HW.o.ge;have:=Hm.o;omega),(HW.o.keep34 _ _).drew,λi hi=> .inl hi⟩
 case round=>
  obtain⟨ao',c',j,hkj,rfl,hr,hkp,hft⟩:=hrel;have d2:=hr.c2;have d3:=hr.c3;have d4:=hr.c4;have g2:=hr.fz 2;have g3:=hr.fz 3;have g4:=hr.fz 4;have hge:=hr.ge;obtain⟨q,hq⟩:∃q,L+s - 8*j=q:=⟨_,rfl⟩
  obtain⟨X',hX'⟩:∃X',(V+N*2^L) /256^j=X':=⟨_,rfl⟩
  rw[hq] at d4;rw[hX'] at d3;obtain⟨HX',Hq,HR,HK,HF⟩:=qh5 hX' hq hr hkp hft;clear hX' hr hkp hft c3 c4 f3 f4 hor;by_cases hlt:q<8
  · have hlt':decide ((q:Int)<8)=true:=by simp;omega
    have Hj:=qH (show j=(L+s) /8 by omega);clear hq;go_wp2_with fail;rw[Exit.noGoto_normal];go_end0;exact⟨rfl,ao',c',by rw[<-Hj.o];exact HR.o,HK.o,HF.o⟩
  · have hlt':decide ((q:Int)<8)=false:=by simp;omega
    clear hq;have h9:(q:Int)<=2000000000:=(by have:=Hq.o;omega);have hown:=HR.o.own;have hlen:j<=1000000000:=(by omega);have hbase:=HR.o.base;have hplt:=HR.o.lt;go_wp2_with fail
    go_region_law (refine step_append_lies _ rfl (.tmp 36) (.tmp 42) 26 rfl B 5 i0 (.int .u8 0) 1 1 underlying26 hi hz0 hz1 hz2 rfl (by decide) (.slice ao' j c') j ((bys (V+N*2^L) j).map (Value.int .u8)) (by simp[Act.eval]) (World.ownsRow.alloc (w:=wr.drew) hown _) ⟨wr.heap.size,0,none⟩ 1 1 [.int .u8 (IntKind.u8.wrap (X':Int))] (by simp[Act.eval]) rfl (by intro i u hi;match i,hi with|0,hi=>(simp at hi;subst hi;simp[Addr.add])) (by intro u hu;simp at hu;subst hu;rfl) (by decide) (by unfold maxLen;omega) (by omega) (by simp;omega) (wr.heap.size+1) (by simp) ?_;intro g cap w1 hown1 hgrow hat hlt1;have hn:=((Kept.refl (λi=>Value.ownBlock (.slice ao' j c')=some i) wr).drew.alloc _).grown hgrow (λi hi=> .inl hi);have hpn:=HR.o.row_ne;have k2:=hn.cell d2 hpn;have k3:=hn.cell d3 hpn;have k4:=hn.cell d4 hpn;have k2f:=(hn.frozen (a:=⟨p,2,none⟩) hplt hpn).trans g2;have k3f:=(hn.frozen (a:=⟨p,3,none⟩) hplt hpn).trans g3;have k4f:=(hn.frozen (a:=⟨p,4,none⟩) hplt hpn).trans g4;obtain⟨HO,HG,HA⟩:=qh3 hown1 hgrow hat;clear hn hpn hown1 hgrow hat)
    all_goals
     clear hown;go_wp2_with fail
     go_roundg ((L+s) /8 - (j+1))
     case measure=>have:=Hq.o;omega
     case rel=>
      have R:=HR.o.pushed (w0:=wr.drew.alloc _) (by have:=Hq.o;omega) ((Kept.refl NoB wr).drew.alloc _) HG.o (HA.o.imp id (λe=>by rw[e];simp)) _ (by rw[HX'.o,IntKind.wrap_u8];rfl) HO.o ((X':Int) /256) ((q:Int) - 8) (by rw[<-zep,HX'.o];rfl) (by have:=Hq.o;omega);exact⟨_,cap,j+1,by omega,rfl,R.1,HK.o.trans R.2.1 HF.o,λi hi=>(R.2.2 i hi).elim (λg=>HF.o i g) (λg=> .inr (qK HK.o.size g))⟩
end Go.Proofs.YthgilhebnlglkaaGreatDoor
namespace Go.Proofs.YthgilhebnlglkaaGreatDoor
open Go.RowKit M
variable {w w':World} {B p k c V L:Nat} {ao:Option Addr} {most:Int} {S T:Nat->Prop}
theorem Wr.drewN(h:Wr w B p most ao c k V L)(n:Nat):Wr (w.drewN n) B p most ao c k V L:=h.keep ((Kept.refl NoB w).drewN n) (λ_ _ g=>g)
theorem ziE(h:Wr w B p most ao c k V L)(hk:k<=1000000000)(hL:L<=1000000000)(n:Nat):
 Calls prog 200 #[.pointer (some ⟨p,0,none⟩)] (w.drewN n) λe w'=>e=.returned (.int .i64 L)/\∃n,w'=w.drewN n:=Calls.quiet_of (z54 (h.drewN n) hk hL)
theorem z5s(n Q:Nat)(w:World)(m:Nat)(h:n<=4611686018427387000)(hQ:(n+7) /8=Q):
 Calls prog 236 #[.int .i64 n] (w.drewN m) λe w'=>e=.returned (.int .i64 Q)/\∃n,w'=w.drewN n:=by
 subst hQ;exact(z6R n (w.drewN m) h).mono λ_ _ ⟨he,hw⟩=>⟨he,m,hw.symm⟩
def Did(w:World)(B p:Nat)(S:Nat->Prop)(most:Int)(r:Int×Nat×Nat)(e:Ending)(w':World):Prop:=
 e=.returned (.int .i64 r.1)/\∃S',Wt w' B p S' most r.2.1 r.2.2/\Kept S w w'/\∀j,S' j->S j\/w.heap.size<=j
theorem Did.same(h:Wt w B p S most V L)(r:Int)(n:Nat):Did w B p S most (r,V,L) (.returned (.int .i64 r)) (w.drewN n):=
 ⟨rfl,S,h.keep ((Kept.refl NoB w).drewN n) (λ_ _ g=>g),(Kept.refl S w).drewN n,λ_ g=> .inl g⟩
theorem zeO(h:Wt w B p S most V L)(N s:Nat)(hL:L<=900000000)(hs:s<=56)(hN:N<2^s)(hm:(((L+s+7) /8:Nat):Int)<=most):
 Calls prog 198 #[.pointer (some ⟨p,0,none⟩),.int .u64 N,.int .i64 s] w (Did w B p S most (0,V+N*2^L,L+s)):=by
 obtain⟨ao,c,h,hS⟩:=h;have c0:=h.c0;have c1:=h.c1;obtain⟨T,hT⟩:∃T,L+s=T:=⟨_,rfl⟩
 obtain⟨Q,hQ⟩:∃Q,(T+7) /8=Q:=⟨_,rfl⟩
 rw[hT,hQ] at hm;have hw:IntKind.i64.wrap ((L:Int)+(s:Int))=(T:Int):=(by rw[IntWalk.i64_in _ ⟨by omega,by omega⟩];omega);obtain⟨HQ,HS,HH⟩:=qh3 hQ hS h;have hT2:T<=1000000000:=(by omega);have hL8:L/8<=1000000000:=(by omega);clear hT hQ hS h;go_enter func198,ntmps198;go_wp2_with (go_at_call 164;refine(z0H p _ c0).mono ?_;rintro e w' ⟨rfl,rfl⟩);refine(zb3 N s _ hs hN).mono ?_;rintro e w' ⟨rfl,rfl⟩;go_wp2_with fail
 go_quiet (first|(go_at_call 200;exact ziE HH.o hL8 (by omega) _)|(go_at_call 236;exact z5s T Q _ _ (by omega) HQ.o))
 go_wp2_with fail;refine(zgH (HH.o.drewN nq) (by have:=HH.o.ge;omega) N s hN hs (by omega)).mono ?_;rintro e w2 ⟨rfl,ao2,c2,r1,r2,r3⟩;obtain⟨R1,R2,R3⟩:=qh3 r1 r2 r3;clear r1 r2 r3;go_wp2_with fail;go_ret;exact⟨rfl,z50 p ao2,⟨ao2,c2,R1.o,λ_=>Iff.rfl⟩,(((Kept.refl (z50 p ao) w).drewN nq).trans R2.o (λj hj=> .inl hj)).mono (λj hj=>(HS.o j).2 hj),λj hj=>(R3.o j hj).imp (HS.o j).2 id⟩
theorem zcl(h:Wt w B p S most V L)(N s:Nat)(hL:L<=900000000)(hs:s<=56)(hN:N<2^s)(hm:¬(((L+s+7) /8:Nat):Int)<=most):
 Calls prog 198 #[.pointer (some ⟨p,0,none⟩),.int .u64 N,.int .i64 s] w (Did w B p S most (4,V,L)):=by
 have H0:=qH h;obtain⟨ao,c,h,hS⟩:=h;have c0:=h.c0;have c1:=h.c1;obtain⟨T,hT⟩:∃T,L+s=T:=⟨_,rfl⟩
 obtain⟨Q,hQ⟩:∃Q,(T+7) /8=Q:=⟨_,rfl⟩
 rw[hT,hQ] at hm;have hm2:most<(Q:Int):=(by omega);clear hm;have hw:IntKind.i64.wrap ((L:Int)+(s:Int))=(T:Int):=(by rw[IntWalk.i64_in _ ⟨by omega,by omega⟩];omega);obtain⟨HQ,HH⟩:=qh2 hQ h;have hT2:T<=1000000000:=(by omega);have hL8:L/8<=1000000000:=(by omega);clear hT hQ hS h;go_enter func198,ntmps198;go_wp2_with (go_at_call 164;refine(z0H p _ c0).mono ?_;rintro e w' ⟨rfl,rfl⟩);refine(zb3 N s _ hs hN).mono ?_;rintro e w' ⟨rfl,rfl⟩;go_wp2_with fail
 go_quiet (first|(go_at_call 200;exact ziE HH.o hL8 (by omega) _)|(go_at_call 236;exact z5s T Q _ _ (by omega) HQ.o))
 go_wp2_with fail;go_ret;exact Did.same H0.o 4 nq
theorem zeP(h:Wt w B p S most V L)(n x:Int)(h0:0<=n)(hx:¬(0<=x/\x<=56/\n.toNat<2^x.toNat)):
 Calls prog 198 #[.pointer (some ⟨p,0,none⟩),.int .u64 n,.int .i64 x] w (Did w B p S most (2,V,L)):=by
 have H0:=qH h;obtain⟨ao,c,h,hS⟩:=h;have c0:=h.c0;have HX:=qH hx;clear h hS hx;go_enter func198,ntmps198;go_wp2_with (go_at_call 164;refine(z0H p _ c0).mono ?_;rintro e w' ⟨rfl,rfl⟩);refine(ziP n x _ h0 HX.o).mono ?_;rintro e w' ⟨rfl,rfl⟩;go_wp2_with fail;go_ret;exact Did.same H0.o 2 0
theorem bits_any(h:Wt w B p S most V L)(n x:Int)(h0:0<=n)(hL:L<=900000000):
 Calls prog 198 #[.pointer (some ⟨p,0,none⟩),.int .u64 n,.int .i64 x] w (Did w B p S most (z4U most V L n.toNat x)):=by
 by_cases hx:0<=x/\x<=56/\n.toNat<2^x.toNat
 · obtain⟨N,rfl⟩:=Int.eq_ofNat_of_zero_le h0
   obtain⟨s,rfl⟩:=Int.eq_ofNat_of_zero_le hx.1;obtain⟨_,h2,h3⟩:=hx;rw[Int.toNat_natCast,Int.toNat_natCast] at h3;rw[Int.toNat_natCast];by_cases hm:(((L+s+7) /8:Nat):Int)<=most
   · rw[z3n (by omega) h3 hm]
     exact zeO h N s hL (by omega) h3 hm
   · rw[z2f (by omega) h3 hm]
     exact zcl h N s hL (by omega) h3 hm
 · rw[zcm hx]
   exact zeP h n x h0 hx
theorem Did.from{w0:World}{r:Int×Nat×Nat}{e:Ending}(hk:Kept NoB w w0)(h:Did w0 B p S most r e w'):Did w B p S most r e w':=by
 obtain⟨he,S',h1,h2,h3⟩:=h;exact⟨he,S',h1,(hk.none S).trans h2 (λj hj=> .inl hj),λj hj=>(h3 j hj).imp id (λg=>qK hk.size g)⟩
theorem code_any(h:Wt w B p S most V L)(n x:Int)(h0:0<=n/\n<=4294967295)(hx:0<=x/\x<=255)(hL:L<=900000000):
 Calls prog 244 #[.pointer (some ⟨p,0,none⟩),.agg #[.int .u32 n,.int .u8 x]] w (Did w B p S most (z4U most V L n.toNat x)):=by
 have H0:=qH h;clear h;have h1:=h0.1;have h2:=h0.2;have h3:=hx.1;have h4:=hx.2;clear h0 hx;go_enter func244,ntmps244;go_wp2_with fail;refine(bits_any (H0.o.keep ((Kept.refl NoB w).alloc _) (λ_ _ g=>g)) n x h1 hL).mono ?_;rintro e w2 ⟨rfl,r⟩;have R:=qH r;clear r;go_wp2_with fail;go_ret;exact Did.from ((Kept.refl NoB w).alloc _) ⟨rfl,R.o⟩
