import Derived.Test.YthgilhebnlglkaaGreatDoorKMMath
import Derived.Deep.LoopGhost
import Derived.Deep.RegionLaw
import Derived.Test.YthgilhebnlglkaaGreatDoorKStr
set_option linter.all false
set_option maxHeartbeats 0
set_option maxRecDepth 1000000
open Go.Proofs.Tryz
namespace Go.Proofs.YthgilhebnlglkaaGreatDoor
section
open Go.RowKit M
variable {w w':World} {B p k c V L:Nat} {ao:Option Addr} {most:Int} {S T:Nat->Prop}
theorem jg:(prog.info? 5).map (λi=>(i.zero,i.size,i.bytes))=some (some (.int .u8 0),1,1):=by kernel_rfl
theorem aA{i j:Nat}{v:Value}(h:i≠j):(w.setCell ⟨p,i,none⟩ v).cell? ⟨p,j,none⟩=w.cell? ⟨p,j,none⟩:=World.cell?_setCell_other w _ _ _ (λe=>h (by injection e))
theorem gW{i:Nat}{u v:Value}(h:w.cell? ⟨p,i,none⟩=some u):(w.setCell ⟨p,i,none⟩ v).cell? ⟨p,i,none⟩=some v:=World.cell?_setCell_same' w _ _ (by rw[h];rfl)
theorem gV{a b:Addr}{v:Value}(h:w.frozen? b=false):(w.setCell a v).frozen? b=false:=by rw[World.frozen?_setCell];exact h
theorem Wr.keep34(h:Wr w B p most ao c k V L)(x y:Value):Kept (dC p ao) w ((w.setCell ⟨p,3,none⟩ x).setCell ⟨p,4,none⟩ y):=
 ((Kept.refl _ w).setCell _ (.inl (.inl rfl)) _).setCell _ (.inl (.inl rfl)) _
theorem Wr.put34(h:Wr w B p most ao c k V L){b L':Nat}(hs:bys b k=bys V k)(l:b<2^L')(o:8*k<=L')(Y Z:Int)(f:Y=((b /256^k:Nat):Int))(q:Z=((L' - 8*k:Nat):Int)):
 Wr ((w.setCell ⟨p,3,none⟩ (.int .u64 Y)).setCell ⟨p,4,none⟩ (.int .i64 Z)).drew B p most ao c k b L':=by
 subst f q;have t:=h.c0;have e:=h.c1;have r:=h.c2;have n:=h.c3;have s:=h.c4;have hf:=h.fz
 have m:Kept (λj=>j=p) w ((w.setCell ⟨p,3,none⟩ (.int .u64 ((b /256^k:Nat):Int))).setCell ⟨p,4,none⟩ (.int .i64 ((L' - 8*k:Nat):Int))).drew:=
  (((Kept.refl (λj=>j=p) w).setCell ⟨p,3,none⟩ (.inl rfl) _).setCell ⟨p,4,none⟩ (.inl rfl) _).drew
 refine⟨(aA (by decide)).trans ((aA (by decide)).trans t),(aA (by decide)).trans ((aA (by decide)).trans e),(aA (by decide)).trans ((aA (by decide)).trans r),(aA (by decide)).trans (gW n),gW ((aA (by decide)).trans s),
  λi=>gV (gV (hf i)),?_,h.ap,h.base,l,o⟩
 · rw[hs]
   refine m.own h.own λg d=> ?_
   cases ao with
   |none=>simp[Value.ownBlock] at d
   |some a=>
    have:=h.ap a rfl;simp[Value.ownBlock] at d;omega
theorem Wr.row_ne(h:Wr w B p most ao c k V L):¬Value.ownBlock (.slice ao k c)=some p:=by
 intro b;cases ao with
 |none=>simp[Value.ownBlock] at b
 |some a=>exact h.ap a rfl (by simpa [Value.ownBlock] using b)
theorem Wr.pushed{w0 w1:World}{g f:Nat}(h:Wr w B p most ao c k V L)(C:8*(k+1)<=L)(m:Kept NoB w w0)(y:w0.grownBy w1 (Value.ownBlock (.slice ao k c)))(hat:Value.ownBlock (.slice ao k c)=some g\/g=w0.heap.size)
 (x:Int) (z:x=((V/256^k%256:Nat):Int)) (r:w1.ownsRow B 5 1 (.slice (some ⟨g,0,none⟩) (k+1) f) (k+1) ((bys V k).map (Value.int .u8)++[.int .u8 x])) (Y Z:Int) (H:Y=((V/256^(k+1):Nat):Int)) (J:Z=((L - 8*(k+1):Nat):Int)):
 Wr (((w1.setCell ⟨p,2,none⟩ (.slice (some ⟨g,0,none⟩) (k+1) f)).setCell ⟨p,3,none⟩ (.int .u64 Y)).setCell ⟨p,4,none⟩ (.int .i64 Z)) B p most (some ⟨g,0,none⟩) f (k+1) V L/\
  Kept (dC p ao) w (((w1.setCell ⟨p,2,none⟩ (.slice (some ⟨g,0,none⟩) (k+1) f)).setCell ⟨p,3,none⟩ (.int .u64 Y)).setCell ⟨p,4,none⟩ (.int .i64 Z))/\
  (∀j,dC p (some ⟨g,0,none⟩) j->dC p ao j\/w.heap.size<=j):=by
 subst H J z;have l:∀j,Value.ownBlock (.slice ao k c)=some j->dC p ao j:=by
  intro j e;cases ao with
  |none=>simp[Value.ownBlock] at e
  |some a=>exact .inr ⟨a,rfl,by simpa [Value.ownBlock] using e.symm⟩
 have q:dC p ao g/\g≠p\/w.heap.size<=g:=by
  rcases hat with hat|hat
  · refine .inl ⟨l g hat,?_⟩
    cases ao with
    |none=>simp[Value.ownBlock] at hat
    |some a=>
     have:=h.ap a rfl;simp[Value.ownBlock] at hat;omega
  · exact .inr (by rw[hat];exact m.size)
 have v:g≠p:=by
  rcases q with h0|h0
  · exact h0.2
  · have:=h.lt;omega
 have u:Kept (dC p ao) w w1:=(m.none _).grown y (λj e=> .inl (l j e));have b:Wr w0 B p most ao c k V L:=h.keep m (λ_ _ g=>g.elim);have n:Kept (λj=>Value.ownBlock (.slice ao k c)=some j) w0 w1:=Kept.of_grown y;have d:=h.row_ne;have F:=n.cell b.c0 d;have E:=n.cell b.c1 d;have G:=n.cell b.c2 d;have A:=n.cell b.c3 d;have I:=n.cell b.c4 d;have D:∀i,w1.frozen? ⟨p,i,none⟩=false:=λi=>(n.frozen (a:=⟨p,i,none⟩) b.lt d).trans (b.fz i)
 have o:Kept (λj=>j=p) w1 (((w1.setCell ⟨p,2,none⟩ (.slice (some ⟨g,0,none⟩) (k+1) f)).setCell ⟨p,3,none⟩ (.int .u64 ((V/256^(k+1):Nat):Int))).setCell ⟨p,4,none⟩ (.int .i64 ((L - 8*(k+1):Nat):Int))):=
  (((Kept.refl (λj=>j=p) w1).setCell ⟨p,2,none⟩ (.inl rfl) _).setCell ⟨p,3,none⟩ (.inl rfl) _).setCell ⟨p,4,none⟩ (.inl rfl) _
 refine⟨⟨(aA (by decide)).trans ((aA (by decide)).trans ((aA (by decide)).trans F)),(aA (by decide)).trans ((aA (by decide)).trans ((aA (by decide)).trans E)),(aA (by decide)).trans ((aA (by decide)).trans (gW G)),
  (aA (by decide)).trans (gW ((aA (by decide)).trans A)),gW ((aA (by decide)).trans ((aA (by decide)).trans I)),λi=>gV (gV (gV (D i))),?_,?_,h.base,h.val,C⟩,u.trans o (λj e=> .inl (.inl e)),?_⟩
 · rw[pz,Aw]
   exact o.own r λi hi=>by
    have:g=i:=(by simpa [Value.ownBlock] using hi);omega
 · intro a s
   obtain rfl:(⟨g,0,none⟩:Addr)=a:=by simpa using s
   exact v
 · intro j e
   rcases e with e|⟨a,s,e⟩
   · exact .inl (.inl e)
   · obtain rfl:(⟨g,0,none⟩:Addr)=a:=by simpa using s
     subst e;rcases q with h0|h0
     · exact .inl h0.1
     · exact .inr h0
theorem tC(h:Wr w B p most ao c k V L)(h7:L - 8*k<=7)(N s:Nat)(hN:N<2^s)(hs:s<=56)(hL:L<=1000000000):
 Calls prog 237 #[.pointer (some ⟨p,0,none⟩),.int .u64 N,.int .i64 s] w λe w'=>e=.returned (.tuple #[])/\∃b A,Wr w' B p most b A ((L+s) /8) (V+N*2^L) (L+s)/\Kept (dC p ao) w w'/\(∀j,dC p b j->dC p ao j\/w.heap.size<=j):=by
 obtain⟨i0,hi,Q,U,Z⟩:=info_parts jg;have c3:=h.c3;have c4:=h.c4;have f3:=h.fz 3;have f4:=h.fz 4;generalize M:L - 8*k=m at c4 h7;have y:=Gn h.val h.ge M h7 hN hs;obtain⟨X,hX⟩:∃X,V/256^k=X:=⟨_,rfl⟩
 obtain⟨Y,hY⟩:∃Y,(V+N*2^L) /256^k=Y:=⟨_,rfl⟩
 rw[hX] at c3 y;rw[hY] at y;obtain⟨HY,Hm,E⟩:=qh3 hY M h;clear hX hY M h;go_enter func237,ntmps237
 go_step3
 go_wp2_with fail
 go_region
 go_wp2_with fail
 go_step3
 go_wp2_with fail
 go_loopg [] ((L+s) /8 - k) (λg wr=> ∃b A j,k<=j/\g=(L+s) /8 - j/\Wr wr B p most b A j (V+N*2^L) (L+s)/\Kept (dC p ao) w wr/\(∀i,dC p b i->dC p ao i\/w.heap.size<=i))
 case atStart=> 
  exact⟨ao,c,k,qR,rfl,E.o.put34 (zv E.o.ge) (uc E.o.val hN) (by have:=E.o.ge;omega) _ _ (by rw[HY.o]) (by have:=E.o.ge;have:=Hm.o;omega),(E.o.keep34 _ _).drew,λi hi=> .inl hi⟩
 case round=>
  obtain⟨b,A,j,a3,rfl,v,F,I⟩:=hrel;have d2:=v.c2;have d3:=v.c3;have d4:=v.c4;have g2:=v.fz 2;have g3:=v.fz 3;have g4:=v.fz 4;have a5:=v.ge;obtain⟨q,K⟩:∃q,L+s - 8*j=q:=⟨_,rfl⟩
  obtain⟨X',z⟩:∃X',(V+N*2^L) /256^j=X':=⟨_,rfl⟩
  rw[K] at d4;rw[z] at d3;obtain⟨G,Hq,D,O,P⟩:=qh5 z K v F I;clear z v F I c3 c4 f3 f4 y;by_cases a7:q<8
  · have H:decide ((q:Int)<8)=true:=by simp;omega
    have Hj:=qH (show j=(L+s) /8 by omega);clear K;go_wp2_with fail;rw[Exit.noGoto_normal];go_end0;exact⟨rfl,b,A,by rw[<-Hj.o];exact D.o,O.o,P.o⟩
  · have H:decide ((q:Int)<8)=false:=by simp;omega
    clear K;have h9:(q:Int)<=2000000000:=(by have:=Hq.o;omega);have x:=D.o.own;have a1:j<=1000000000:=(by omega);have W:=D.o.base;have r:=D.o.lt;go_wp2_with fail
    go_region_law (refine step_append_lies _ rfl (.tmp 36) (.tmp 42) 26 rfl B 5 i0 (.int .u8 0) 1 1 underlying26 hi Q U Z rfl (by decide) (.slice b j A) j ((bys (V+N*2^L) j).map (Value.int .u8)) (by simp[Act.eval]) (World.ownsRow.alloc (w:=wr.drew) x _) ⟨wr.heap.size,0,none⟩ 1 1 [.int .u8 (IntKind.u8.wrap (X':Int))] (by simp[Act.eval]) rfl (by intro i u hi;match i,hi with|0,hi=>(simp at hi;subst hi;simp[Addr.add])) (by intro u hu;simp at hu;subst hu;rfl) (by decide) (by unfold maxLen;omega) (by omega) (by simp;omega) (wr.heap.size+1) (by simp) ?_;intro g a0 w1 n d J a2;have C:=((Kept.refl (λi=>Value.ownBlock (.slice b j A)=some i) wr).drew.alloc _).grown d (λi hi=> .inl hi);have l:=D.o.row_ne;have k2:=C.cell d2 l;have k3:=C.cell d3 l;have k4:=C.cell d4 l;have a4:=(C.frozen (a:=⟨p,2,none⟩) r l).trans g2;have a6:=(C.frozen (a:=⟨p,3,none⟩) r l).trans g3;have a8:=(C.frozen (a:=⟨p,4,none⟩) r l).trans g4;obtain⟨HO,HG,HA⟩:=qh3 n d J;clear C l n d J)
    all_goals
     clear x;go_wp2_with fail
     go_roundg ((L+s) /8 - (j+1))
     case measure=>have:=Hq.o;omega
     case rel=>
      have R:=D.o.pushed (w0:=wr.drew.alloc _) (by have:=Hq.o;omega) ((Kept.refl NoB wr).drew.alloc _) HG.o (HA.o.imp id (λe=>by rw[e];simp)) _ (by rw[G.o,IntKind.wrap_u8];rfl) HO.o ((X':Int) /256) ((q:Int) - 8) (by rw[<-zg,G.o];rfl) (by have:=Hq.o;omega);exact⟨_,a0,j+1,by omega,rfl,R.1,O.o.trans R.2.1 P.o,λi hi=>(R.2.2 i hi).elim (λg=>P.o i g) (λg=> .inr (qK O.o.size g))⟩
end
section
open Go.RowKit M
variable {w w':World} {B p k c V L:Nat} {ao:Option Addr} {most:Int} {S T:Nat->Prop}
theorem Wr.drewN(h:Wr w B p most ao c k V L)(n:Nat):Wr (w.drewN n) B p most ao c k V L:=h.keep ((Kept.refl NoB w).drewN n) (λ_ _ g=>g)
theorem xE(h:Wr w B p most ao c k V L)(b:k<=1000000000)(a:L<=1000000000)(n:Nat):
 Calls prog 200 #[.pointer (some ⟨p,0,none⟩)] (w.drewN n) λe w'=>e=.returned (.int .i64 L)/\∃n,w'=w.drewN n:=Calls.quiet_of (dt (h.drewN n) b a)
theorem cm(n Q:Nat)(w:World)(m:Nat)(h:n<=4611686018427387000)(a:(n+7) /8=Q):
 Calls prog 236 #[.int .i64 n] (w.drewN m) λe w'=>e=.returned (.int .i64 Q)/\∃n,w'=w.drewN n:=by
 subst a;exact(mV n (w.drewN m) h).mono λ_ _ ⟨b,d⟩=>⟨b,m,d.symm⟩
def Did(w:World)(B p:Nat)(S:Nat->Prop)(most:Int)(r:Int×Nat×Nat)(e:Ending)(w':World):Prop:=
 e=.returned (.int .i64 r.1)/\∃S',Wt w' B p S' most r.2.1 r.2.2/\Kept S w w'/\∀j,S' j->S j\/w.heap.size<=j
theorem Did.same(h:Wt w B p S most V L)(r:Int)(n:Nat):Did w B p S most (r,V,L) (.returned (.int .i64 r)) (w.drewN n):=
 ⟨rfl,S,h.keep ((Kept.refl NoB w).drewN n) (λ_ _ g=>g),(Kept.refl S w).drewN n,λ_ g=> .inl g⟩
theorem zH(h:Wt w B p S most V L)(N s:Nat)(C:L<=900000000)(hs:s<=56)(m:N<2^s)(v:(((L+s+7) /8:Nat):Int)<=most):
 Calls prog 198 #[.pointer (some ⟨p,0,none⟩),.int .u64 N,.int .i64 s] w (Did w B p S most (0,V+N*2^L,L+s)):=by
 obtain⟨ao,c,h,r⟩:=h;have c0:=h.c0;have c1:=h.c1;obtain⟨T,l⟩:∃T,L+s=T:=⟨_,rfl⟩
 obtain⟨Q,g⟩:∃Q,(T+7) /8=Q:=⟨_,rfl⟩
 rw[l,g] at v;have D:IntKind.i64.wrap ((L:Int)+(s:Int))=(T:Int):=(by rw[IntWalk.i64_in _ ⟨by omega,by omega⟩];omega);obtain⟨A,q,d⟩:=qh3 g r h;have x:T<=1000000000:=(by omega);have i:L/8<=1000000000:=(by omega);clear l g r h;go_enter func198,ntmps198;go_wp2_with (go_at_call 164;refine(aC p _ c0).mono ?_;rintro e w' ⟨rfl,rfl⟩);refine(uf N s _ hs m).mono ?_;rintro e w' ⟨rfl,rfl⟩;go_wp2_with fail
 go_quiet (first|(go_at_call 200;exact xE d.o i (by omega) _)|(go_at_call 236;exact cm T Q _ _ (by omega) A.o))
 go_wp2_with fail;refine(tC (d.o.drewN nq) (by have:=d.o.ge;omega) N s m hs (by omega)).mono ?_;rintro e E ⟨rfl,a,z,u,n,t⟩;obtain⟨y,R2,R3⟩:=qh3 u n t;clear u n t;go_wp2_with fail;go_ret;exact⟨rfl,dC p a,⟨a,z,y.o,λ_=>Iff.rfl⟩,(((Kept.refl (dC p ao) w).drewN nq).trans R2.o (λj b=> .inl b)).mono (λj b=>(q.o j).2 b),λj b=>(R3.o j b).imp (q.o j).2 id⟩
theorem wi(h:Wt w B p S most V L)(N s:Nat)(t:L<=900000000)(hs:s<=56)(l:N<2^s)(g:¬(((L+s+7) /8:Nat):Int)<=most):
 Calls prog 198 #[.pointer (some ⟨p,0,none⟩),.int .u64 N,.int .i64 s] w (Did w B p S most (4,V,L)):=by
 have n:=qH h;obtain⟨ao,c,h,i⟩:=h;have c0:=h.c0;have c1:=h.c1;obtain⟨T,d⟩:∃T,L+s=T:=⟨_,rfl⟩
 obtain⟨Q,b⟩:∃Q,(T+7) /8=Q:=⟨_,rfl⟩
 rw[d,b] at g;have m:most<(Q:Int):=(by omega);clear g;have u:IntKind.i64.wrap ((L:Int)+(s:Int))=(T:Int):=(by rw[IntWalk.i64_in _ ⟨by omega,by omega⟩];omega);obtain⟨q,r⟩:=qh2 b h;have j:T<=1000000000:=(by omega);have a:L/8<=1000000000:=(by omega);clear d b i h;go_enter func198,ntmps198;go_wp2_with (go_at_call 164;refine(aC p _ c0).mono ?_;rintro e w' ⟨rfl,rfl⟩);refine(uf N s _ hs l).mono ?_;rintro e w' ⟨rfl,rfl⟩;go_wp2_with fail
 go_quiet (first|(go_at_call 200;exact xE r.o a (by omega) _)|(go_at_call 236;exact cm T Q _ _ (by omega) q.o))
 go_wp2_with fail;go_ret;exact Did.same n.o 4 nq
theorem zI(h:Wt w B p S most V L)(n x:Int)(g:0<=n)(a:¬(0<=x/\x<=56/\n.toNat<2^x.toNat)):
 Calls prog 198 #[.pointer (some ⟨p,0,none⟩),.int .u64 n,.int .i64 x] w (Did w B p S most (2,V,L)):=by
 have d:=qH h;obtain⟨ao,c,h,b⟩:=h;have c0:=h.c0;have i:=qH a;clear h b a;go_enter func198,ntmps198;go_wp2_with (go_at_call 164;refine(aC p _ c0).mono ?_;rintro e w' ⟨rfl,rfl⟩);refine(Jz n x _ g i.o).mono ?_;rintro e w' ⟨rfl,rfl⟩;go_wp2_with fail;go_ret;exact Did.same d.o 2 0
theorem bits_any(h:Wt w B p S most V L)(n x:Int)(g:0<=n)(e:L<=900000000):
 Calls prog 198 #[.pointer (some ⟨p,0,none⟩),.int .u64 n,.int .i64 x] w (Did w B p S most (jt most V L n.toNat x)):=by
 by_cases b:0<=x/\x<=56/\n.toNat<2^x.toNat
 · obtain⟨N,rfl⟩:=Cr g
   obtain⟨s,rfl⟩:=Cr b.1;obtain⟨_,i,a⟩:=b;rw[Au,Au] at a;rw[Au];by_cases d:(((L+s+7) /8:Nat):Int)<=most
   · rw[fU (by omega) a d]
     exact zH h N s e (by omega) a d
   · rw[dX (by omega) a d]
     exact wi h N s e (by omega) a d
 · rw[wj b]
   exact zI h n x g b
theorem Did.from{w0:World}{r:Int×Nat×Nat}{e:Ending}(b:Kept NoB w w0)(h:Did w0 B p S most r e w'):Did w B p S most r e w':=by
 obtain⟨l,i,d,m,f⟩:=h;exact⟨l,i,d,(b.none S).trans m (λj a=> .inl a),λj a=>(f j a).imp id (λg=>qK b.size g)⟩
theorem code_any(h:Wt w B p S most V L)(n x:Int)(b:0<=n/\n<=4294967295)(a:0<=x/\x<=255)(i:L<=900000000):
 Calls prog 244 #[.pointer (some ⟨p,0,none⟩),.agg #[.int .u32 n,.int .u8 x]] w (Did w B p S most (jt most V L n.toNat x)):=by
 have j:=qH h;clear h;have d:=b.1;have m:=b.2;have l:=a.1;have q:=a.2;clear b a;go_enter func244,ntmps244;go_wp2_with fail;refine(bits_any (j.o.keep ((Kept.refl NoB w).alloc _) (λ_ _ g=>g)) n x d i).mono ?_;rintro e s ⟨rfl,r⟩;have R:=qH r;clear r;go_wp2_with fail;go_ret;exact Did.from ((Kept.refl NoB w).alloc _) ⟨rfl,R.o⟩
theorem iR(h:Wr w B p most ao c k V L)(b:L - 8*k<=7)(s:Nat)(hs:s<=56)(i:L<=1000000000):
 Calls prog 237 #[.pointer (some ⟨p,0,none⟩),.int .u64 0,.int .i64 s] w λe w'=>e=.returned (.tuple #[])/\∃a d,Wr w' B p most a d ((L+s) /8) V (L+s)/\Kept (dC p ao) w w'/\(∀j,dC p a j->dC p ao j\/w.heap.size<=j):=by
 have g:=tC h b 0 s (AA s) hs i;rw[BU,AI] at g;exact g
theorem align_any(h:Wt w B p S most V L)(E:L<=900000000):
 Calls prog 272 #[.pointer (some ⟨p,0,none⟩)] w (Did w B p S most (0,V,aG L)):=by
 obtain⟨ao,c,h,r⟩:=h;have c0:=h.c0;obtain⟨Q,l⟩:∃Q,(L+7) /8=Q:=⟨_,rfl⟩
 obtain⟨D,A⟩:∃D,8*Q - L=D:=⟨_,rfl⟩
 have F:(Q:Int)*8 - (L:Int)=(D:Int):=(by omega);have z:=qH (show L+D=aG L by unfold aG;omega);have v:D<=7:=(by omega);have u:Q<=200000000:=(by omega);obtain⟨C,q,g⟩:=qh3 l r h;have d:L/8<=1000000000:=(by omega);clear A l r h;go_enter func272,ntmps272;go_wp2_with (go_at_call 164;refine(aC p _ c0).mono ?_;rintro e w' ⟨rfl,rfl⟩);refine(dt g.o d (by omega)).mono ?_;rintro e w' ⟨rfl,G,rfl⟩;go_wp2_with fail;refine(cm L Q _ _ (by omega) C.o).mono ?_;rintro e w' ⟨rfl,i,rfl⟩;go_wp2_with fail;refine(dt (g.o.drewN i) d (by omega)).mono ?_;rintro e w' ⟨rfl,n,rfl⟩;go_wp2_with fail;refine(iR (g.o.drewN (i+n)) (by have:=g.o.ge;omega) D (by omega) (by omega)).mono ?_;rintro e H ⟨rfl,a,y,t,m,s⟩;obtain⟨x,R2,R3⟩:=qh3 t m s;clear t m s;go_wp2_with fail;go_ret;exact⟨rfl,dC p a,⟨a,y,by rw[<-z.o];exact x.o,λ_=>Iff.rfl⟩,(((Kept.refl (dC p ao) w).drewN (i+n)).trans R2.o (λj b=> .inl b)).mono (λj b=>(q.o j).2 b),λj b=>(R3.o j b).imp (q.o j).2 id⟩
theorem Wr.strung{w1:World}{q:Nat}{s:ByteArray}{b:Option Addr}{r:Nat}(h:Wr w B p most ao c q V (8*q))(D:w.grownBy w1 (Value.ownBlock (.slice ao q c)))(x:∀a,b=some a->Value.ownBlock (.slice ao q c)=some a.block\/w.heap.size<=a.block)
 (y:w1.ownsRow B 5 1 (.slice b (q+s.size) r) (q+s.size) ((bys V q).map (Value.int .u8)++Lib.strCells s)):
 Wr (w1.setCell ⟨p,2,none⟩ (.slice b (q+s.size) r)) B p most b r (q+s.size) (V+vl s.data.toList*2^(8*q)) (8*q+8*s.size)/\
  Kept (dC p ao) w (w1.setCell ⟨p,2,none⟩ (.slice b (q+s.size) r))/\(∀j,dC p b j->dC p ao j\/w.heap.size<=j):=by
 have l:∀j,Value.ownBlock (.slice ao q c)=some j->dC p ao j:=by
  intro j f;cases ao with
  |none=>simp[Value.ownBlock] at f
  |some a=>exact .inr ⟨a,rfl,by simpa [Value.ownBlock] using f.symm⟩
 have d:=h.row_ne;have m:Kept (λj=>Value.ownBlock (.slice ao q c)=some j) w w1:=Kept.of_grown D;have H:=m.cell h.c0 d;have G:=m.cell h.c1 d;have I:=m.cell h.c2 d;have E:=m.cell h.c3 d;have K:=m.cell h.c4 d;have A:Kept (dC p ao) w w1:=(Kept.refl _ w).grown D (λj f=> .inl (l j f));have v:∀a,b=some a->a.block≠p:=by
  intro a z e;rcases x a z with g|g
  · exact d (by rw[<-e];exact g)
  · have:=h.lt;omega
 have C:V<256^q:=(by rw[Jm];exact h.val);have o:=wP s.data.toList;rw[ai,Jm] at o;have n:=uc (N:=vl s.data.toList) h.val o;have J:V/256^q=0:=Cf C;have F:(V+vl s.data.toList*2^(8*q)) /256^(q+s.size)=0:=Cf (by rw[Jm,BR];exact n);have u:Kept (λj=>j=p) w1 (w1.setCell ⟨p,2,none⟩ (.slice b (q+s.size) r)):=(Kept.refl (λj=>j=p) w1).setCell ⟨p,2,none⟩ (.inl rfl) _
 refine⟨⟨(aA (by decide)).trans H,(aA (by decide)).trans G,gW I,(aA (by decide)).trans (by rw[F,E,J]),(aA (by decide)).trans (by rw[K];congr 2;omega),
  λi=>gV ((m.frozen (a:=⟨p,i,none⟩) h.lt d).trans (h.fz i)),?_,v,h.base,n,by omega⟩,A.trans u (λj f=> .inl (.inl f)),?_⟩
 · rw[<-Jm,<-re V q s C]
   refine u.own y λi hi g=> ?_
   cases b with
   |none=>simp[Value.ownBlock] at hi
   |some a=>
    have:=v a rfl;simp[Value.ownBlock] at hi;omega
 · intro j f
   rcases f with f|⟨a,z,f⟩
   · exact .inl (.inl f)
   · subst f
     rcases x a z with g|g
     · exact .inl (l _ g)
     · exact .inr g
theorem vT(h:Wt w B p S most V L)(s:ByteArray)(Y:L<=900000000)(hs:s.size<=100000000)(H:(((L+7) /8+s.size:Nat):Int)<=most):
 Calls prog 273 #[.pointer (some ⟨p,0,none⟩),.string s] w (Did w B p S most (0,V+vl s.data.toList*2^aG L,aG L+8*s.size)):=by
 obtain⟨i0,hi,z,C,D⟩:=info_parts jg;have H0:=qH h;obtain⟨ao,c,h,hS⟩:=h;have c0:=h.c0;have c1:=h.c1;generalize I:(L+7) /8=Q at H;have X:(Q:Int)+(s.size:Int)<=most:=(by omega);have hw:IntKind.i64.wrap ((Q:Int)+(s.size:Int))=(Q:Int)+(s.size:Int):=(by rw[IntWalk.i64_in _ ⟨by omega,by omega⟩]);have K:=qH (show aG L=8*Q by unfold aG;omega);obtain⟨HQ,Z⟩:=qh2 I h;have F:L/8<=1000000000:=(by omega);have a1:Q<=200000000:=(by omega);clear I hS h H;go_enter func273,ntmps273;go_wp2_with (go_at_call 164;refine(aC p _ c0).mono ?_;rintro e w' ⟨rfl,rfl⟩)
 go_quiet (first|(go_at_call 200;exact xE Z.o F (by omega) _)|(go_at_call 236;exact cm L Q _ _ (by omega) HQ.o))
 go_wp2_with fail;refine(align_any (H0.o.keep ((Kept.refl NoB w).drewN nq) (λ_ _ g=>g)) Y).mono ?_;rintro e y ⟨rfl,S2,⟨m,E,U,J⟩,P,M⟩;have b:Wr y B p most m E Q V (8*Q):=by
  have:Wr y B p most m E (aG L/8) V (aG L):=U;rw[K.o] at this
  rwa [show 8*Q/8=Q by omega] at this
 have O:=b.c2;have x:=b.fz 2;have l:=b.own;have q:B<=y.heap.size:=(by have:=b.base;have:=b.lt;omega);have A:=b.lt;have v:=b.row_ne;obtain⟨R1,R2,R3,N⟩:=qh4 b J P M;clear U b J P M;go_wp2_with (at_builtin;refine cN rfl (.tmp 25) (.tmp 26) 26 9 rfl B 5 i0 underlying26 underlying9 hi z C D _ Q _ rfl l s rfl (by omega) q ?_);intro n W w3 d u i;have G:Kept (λj=>Value.ownBlock (.slice m Q E)=some j) y w3:=Kept.of_grown u;have e2:=G.cell O v;have a0:=(G.frozen (a:=⟨p,2,none⟩) A v).trans x;obtain⟨HO,HG,HT⟩:=qh3 d u i;clear G l d u i O x v;go_wp2_with fail;go_ret;have R:=R1.o.strung HG.o HT.o HO.o;refine⟨rfl,dC p n,⟨n,W,?_,λ_=>Iff.rfl⟩,(((Kept.refl S w).drewN nq).trans R3.o (λj r=> .inl r)).trans (R.2.1.mono (λj r=>(R2.o j).2 r)) (λj r=>N.o j r),λj r=> ?_⟩
 · show Wr _ B p most n W ((aG L+8*s.size) /8) (V+vl s.data.toList*2^aG L) (aG L+8*s.size)
   rw[K.o,show(8*Q+8*s.size) /8=Q+s.size by omega];exact R.1
 · rcases R.2.2 j r with g|g
   · exact N.o j ((R2.o j).2 g)
   · exact .inr (qK R3.o.size g)
theorem rh(h:Wt w B p S most V L)(s:ByteArray)(n:L<=900000000)(hs:s.size<=100000000)(b:¬(((L+7) /8+s.size:Nat):Int)<=most):
 Calls prog 273 #[.pointer (some ⟨p,0,none⟩),.string s] w (Did w B p S most (4,V,L)):=by
 have j:=qH h;obtain⟨ao,c,h,g⟩:=h;have c0:=h.c0;have c1:=h.c1;generalize d:(L+7) /8=Q at b;have i:most<(Q:Int)+(s.size:Int):=(by omega);have q:IntKind.i64.wrap ((Q:Int)+(s.size:Int))=(Q:Int)+(s.size:Int):=(by rw[IntWalk.i64_in _ ⟨by omega,by omega⟩]);obtain⟨l,m⟩:=qh2 d h;have a:L/8<=1000000000:=(by omega);clear d g h b;go_enter func273,ntmps273;go_wp2_with (go_at_call 164;refine(aC p _ c0).mono ?_;rintro e w' ⟨rfl,rfl⟩)
 go_quiet (first|(go_at_call 200;exact xE m.o a (by omega) _)|(go_at_call 236;exact cm L Q _ _ (by omega) l.o))
 go_wp2_with fail;go_ret;exact Did.same j.o 4 nq
theorem bytes_any(h:Wt w B p S most V L)(s:ByteArray)(b:L<=900000000)(hs:s.size<=100000000):
 Calls prog 273 #[.pointer (some ⟨p,0,none⟩),.string s] w (Did w B p S most (vV most V L s)):=by
 by_cases a:(((L+7) /8+s.size:Nat):Int)<=most
 · rw[iy a]
   exact vT h s b hs a
 · rw[fS a]
   exact rh h s b hs a
