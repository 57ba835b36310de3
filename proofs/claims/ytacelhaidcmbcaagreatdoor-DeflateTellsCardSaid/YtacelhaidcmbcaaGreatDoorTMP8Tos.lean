/- Texts of one place, one behind the other: P8Tos, P8Par. -/
import Derived.Test.YtacelhaidcmbcaaGreatDoorTP8Lok
import Derived.Test.YtacelhaidcmbcaaGreatDoorTMP8TkK
import Derived.ScopeJumps
import Derived.Scope
import Derived.WalkMore
import Derived.Test.YtacelhaidcmbcaaGreatDoorTP8Lvl
set_option maxHeartbeats 8000000
set_option maxRecDepth 1000000
set_option linter.unusedVariables false
set_option linter.unusedSimpArgs false
namespace Go.Proofs.YtacelhaidcmbcaaGreatDoor.V.Px
open Go.Lib (hid)
open Go Go.RowKit M
open Q (Owq wpList_tq ty_ne)
structure P10(W wr:World)(B F Bx:Nat)(s:ByteArray)(r:Lv)(v:Value)(L:List Tk)(k:Nat):Prop where
 fd:Fk wr B F s k
 ow:Owq W.heap.size wr v L
 bx:Lk wr Bx r F
 bl:Below B W wr
 hF:F<W.heap.size
 hx:W.heap.size≤Bx
section
variable {W wr w':World} {B F Bx k:Nat} {s:ByteArray} {r:Lv} {v v':Value} {L L':List Tk}
theorem P10.size(h:P10 W wr B F Bx s r v L k):W.heap.size≤wr.heap.size:=h.bl.size
theorem P10.hB(h:P10 W wr B F Bx s r v L k):B≤W.heap.size:=Nat.le_of_lt (Nat.lt_of_le_of_lt h.fd.base h.hF)
theorem P10.below(h:P10 W wr B F Bx s r v L k)(hb:Below wr.heap.size wr w'):P10 W w' B F Bx s r v L k:=
 ⟨h.fd.below hb,h.ow.at fun g hg=>hb.block g (h.ow.lt g hg).2,(hb.block _ h.bx.lt).trans h.bx,h.bl.trans (hb.mono (qK h.hB h.size)),h.hF,h.hx⟩
theorem P10.alloc(h:P10 W wr B F Bx s r v L k)(o:Obj):P10 W (wr.alloc o) B F Bx s r v L k:=h.below ((Below.refl _ _).alloc qR o)
theorem P10.app(h:P10 W wr B F Bx s r v L k)(hg:wr.grownBy w' v.ownBlock)(ho:Owq W.heap.size w' v' L')(hb:Below W.heap.size wr w'):P10 W w' B F Bx s r v' L' k:=by
 cases hv:v.ownBlock with
 |none=>
  rw[hv] at hg;have hbl:Below wr.heap.size wr w':=(Below.refl _ _).grown hg qR (fun k e=>by cases e);have:=h.below hbl;exact⟨this.fd,ho,this.bx,this.bl,h.hF,h.hx⟩
 |some g=>
  rw[hv] at hg;obtain⟨cs,hc⟩:=h.ow.ty g hv;have hl:=h.ow.lt g hv;have hgF:g≠F:=fun e=>by have:=h.hF;omega
  have hgB:g≠Bx:=ty_ne hc h.bx (by decide);exact⟨Fd.off h.fd hc (by decide) hgF hg,ho,(hg.block Bx h.bx.lt (fun e=>hgB (by injection e with e;exact e.symm))).trans h.bx,h.bl.trans (hb.mono h.hB),h.hF,h.hx⟩
theorem P10.look{t:Nat}(h:P10 W wr B F Bx s r v L k)(hf:Fk w' B F s t)(hb:Below B wr w')(hk:KT F wr w'):P10 W w' B F Bx s r v L t:=by
 have hF:=h.hF;have hx:=h.hx;refine⟨hf,h.ow.at fun g hg=> ?_,h.bx.keptT hk (by omega),h.bl.trans hb,hF,hx⟩;obtain⟨cs,hc⟩:=h.ow.ty g hg;have hl:=h.ow.lt g hg;rw[hc];exact hk g _ _ _ hc (by decide) (by omega)
theorem P10.mb{Mb:Nat}{x y:Int}(h:P10 W wr B F Bx s r v L k)(hM:Mc wr Mb x y):Mb≠Bx∧v.ownBlock≠some Mb:=by
 refine⟨ty_ne hM h.bx (by decide),fun e=> ?_⟩;obtain⟨cs,hc⟩:=h.ow.ty Mb e;exact ty_ne hc hM (by decide) rfl
theorem P10.set{Mb:Nat}{x y:Int}(h:P10 W wr B F Bx s r v L k)(hM:Mc wr Mb x y)(hW:W.heap.size≤Mb)(u z:Int):P10 W ((wr.setCell ⟨Mb,0,none⟩ (.int .i64 u)).setCell ⟨Mb,1,none⟩ (.int .i64 z)) B F Bx s r v L k:=by
 obtain⟨h1,h2⟩:=h.mb hM;have hF:=h.hF;have hB:=h.hB;have e:∀g,g≠Mb→((wr.setCell ⟨Mb,0,none⟩ (.int .i64 u)).setCell ⟨Mb,1,none⟩ (.int .i64 z)).heap[g]? =wr.heap[g]? :=fun g hg=>(Below.heap_setCell _ _ _ _ hg).trans (Below.heap_setCell _ _ _ _ hg)
 have hg:=(z1X wr ⟨Mb,0,none⟩ (.int .i64 u)).trans (z1X _ ⟨Mb,1,none⟩ (.int .i64 z));exact⟨Fd.off h.fd hM (by decide) (by omega) hg,h.ow.at fun g hg=>e g (fun q=>h2 (by rw[hg,q])),(e Bx h1.symm).trans h.bx,(h.bl.setCell (p:=⟨Mb,0,none⟩) (qK hB hW) _).setCell (p:=⟨Mb,1,none⟩) (qK hB hW) _,hF,h.hx⟩
theorem Mc.app{Mb:Nat}{x y:Int}(hM:Mc wr Mb x y)(h:P10 W wr B F Bx s r v L k)(hg:wr.grownBy w' v.ownBlock):Mc w' Mb x y:=
 hM.of_block (hg.block Mb hM.lt fun e=>(h.mb hM).2 e.symm)
end
theorem z5H{P:Program}{a:Act}{w:World}{Q:Exit→Act→World→Prop}{c R:Code}(l:Nat)(J:Act→World→Prop)(μ:Act→World→Nat)(hf:findLabel c l=some (Code.skip.seq R))
 (first:(∀a w,J a w→R.wp P (Exit.jump l J Q) a w)→c.wp P (Exit.jump l J Q) a w)
 (pass:∀a w,J a w→R.wp P (Exit.jump l (fun a' w'=>J a' w'∧μ a' w'<μ a w) Q) a w):(Code.scope c).wp P Q a w:=by
 refine wp_scope_jumps l J μ hf (first fun a w hJ=>Code.wp_mono ?_ (pass a w hJ)) (fun a w hJ=>wp_seq (wp_skip (pass a w hJ)));intro e a w h;cases e with
 |goto l=>exact⟨h.1,h.2.1⟩
 |normal=>exact h
 |exit id=>exact h
 |ret=>exact h
 |panic ch=>exact h
 |outgrown=>exact h
theorem zfz{W:World}{B F:Nat}{s:ByteArray}(H:Fk W B F s 0)(r:Lv)(q:Nat)(hq:q≤s.size)(hd:r.d≤1000000):
 Calls Tryz.prog 38 #[.agg #[.int .i64 r.d,.int .i64 r.n,.int .i64 r.z,.pointer (some ⟨F,0,none⟩)],.string s,.int .i64 q] W fun e w'=> ∃v,e=.returned v∧Owq W.heap.size w' v (G s r q (0,0))∧Below B W w':=by
 obtain⟨T,hT⟩:∃T,G s r q (0,0)=T:=⟨_,rfl⟩
 have hTl:T.length≤s.size:=by rw[←hT];have:=G_len s r q (0,0) (fun h=>absurd rfl h);omega
 rw[hT];have hs1:=H.len;have hFl:=H.lt
 have h0:P10 W (W.alloc (.cells #[.int .i64 r.d,.int .i64 r.n,.int .i64 r.z,.pointer (some ⟨F,0,none⟩)] 91)) B F W.heap.size s r (.slice none 0 0) [] 0:=
  have hb:Below W.heap.size W (W.alloc (.cells #[.int .i64 r.d,.int .i64 r.n,.int .i64 r.z,.pointer (some ⟨F,0,none⟩)] 91)):=qL
  ⟨H.below hb,Q.Owq.nil _ _,new_at _ _,hb.mono (by have:=H.base;omega),hFl,qR⟩
 have H0:=hid h0;have HT:=hid hT;have HTL:=hid hTl;clear h0 hT hTl H;go_enter Tryz.func38,Tryz.ntmps38;go_wp2_with fail
 go_loopw [2,7] (fun x v wr=> ∃ (k k':Nat) (L:List Tk),k≤s.size∧x=.int .i64 k∧k'≤k∧P10 W wr B F W.heap.size s r v L k'∧L++G s r k (0,0)=T) (fun x _ _=>s.size - (intOf x).toNat)
 case atStart=>exact⟨q,0,[],hq,rfl,qZ,H0.out,HT.out⟩
 case round=>
  obtain⟨k,k',L,hk,rfl,hk',hS,hTt⟩:=hrel;have hLl:L.length≤2000000:=by have:=HTL.out;rw[←hTt,qA] at this;omega
  by_cases hlt:k<s.size
  · have d1:decide ((k:Int)<(s.size:Int))=true:=q9T (by omega)
    have d1':decide (k<s.size)=true:=q9T hlt;have HS:=hid hS;have HTt:=hid hTt;clear hS hTt;go_wp2_with fail;refine z5H 0 (fun a' w'=> ∃ (k2 k3 m1 m2 Mb:Nat) (v:Value) (L2:List Tk),(∃ (u9 u10 u11 u12 u13 u14 u15 u16 u17 u18 u19 u20 u21 u22 u23 u24 u25 u26 u27 u28 u29 u30 u31 u32 u33 u34 u35 u36 u37 u38 u39 u40 u41 u42 u43 u44 u45 u46 u47 u48 u49 u50 u51 u52 u53 u54 u55 u56 u57 u58 u59 u60 u61 u62 u63 u64 u65:Value),a'={tmps:= #[.agg #[.int .i64 r.d,.int .i64 r.n,.int .i64 r.z,.pointer (some ⟨F,0,none⟩)],.string s,.int .i64 k2,.pointer (some ⟨W.heap.size,0,none⟩),undef,undef,.slice none 0 0,v,.pointer (some ⟨Mb,0,none⟩),u9,u10,u11,u12,u13,u14,u15,u16,u17,u18,u19,u20,u21,u22,u23,u24,u25,u26,u27,u28,u29,u30,u31,u32,u33,u34,u35,u36,u37,u38,u39,u40,u41,u42,u43,u44,u45,u46,u47,u48,u49,u50,u51,u52,u53,u54,u55,u56,u57,u58,u59,u60,u61,u62,u63,u64,u65,undef],defers:=[]})∧k2<s.size∧k3≤k2+1∧P10 W w' B F W.heap.size s r v L2 k3∧Mc w' Mb m1 m2∧W.heap.size≤Mb∧Mt s k2 (m1,m2)∧k≤k2∧L2++G s r k2 (m1,m2)=T) (fun a' _=>s.size - (intOf (a'.tmps.getD 2 undef)).toNat) rfl ?first ?pass
    case pass=>
     rintro a' w2 ⟨k2,k3,m1,m2,Mb,v,L2,⟨u9,u10,u11,u12,u13,u14,u15,u16,u17,u18,u19,u20,u21,u22,u23,u24,u25,u26,u27,u28,u29,u30,u31,u32,u33,u34,u35,u36,u37,u38,u39,u40,u41,u42,u43,u44,u45,u46,u47,u48,u49,u50,u51,u52,u53,u54,u55,u56,u57,u58,u59,u60,u61,u62,u63,u64,u65,rfl⟩,hk2,hk3,hSi,hMi,hW4,hMt,hkk,hTi⟩;have hL2:L2.length≤2000000:=by have:=HTL.out;rw[←hTi,qA] at this;omega
     have hm3:3≤m1:=hMt.len.1;have hm258:m1≤258:=hMt.len.2;have hmf:k2+m1≤s.size:=hMt.fits;have a0:=hSi.bx.at0;have a1:=hSi.bx.at1;have a2:=hSi.bx.at2;have a3:=hSi.bx.at3;have c0:=hMi.at0;have c1:=hMi.at1;have cf0:=hMi.free 0;have cf1:=hMi.free 1;have HSi:=hid hSi;have HM:=hid hMi;have HTi:=hid hTi;obtain⟨kn,hkn⟩:∃kn,k2+1=kn:=⟨_,rfl⟩
     have ekn:(k2:Int)+1=(kn:Int):=by omega
     have hm0:(m1,m2).1≠0:=by simp only;omega
     have h1:k2+1<s.size:=by omega
     have hknb:kn≤2000000:=by omega
     have hk2b:k2≤2000000:=by omega
     by_cases hz:m1<r.z
     · have z1:decide ((m1:Int)<(r.z:Int))=true:=q9T (by omega)
       have z1':decide (m1<r.z)=true:=q9T hz;have hlk2:=look_any hSi.fd r kn (m1:Int) (by omega) (by omega) hd;obtain⟨X2,Y2,hXY2⟩:∃X Y,mt s r kn (m1:Int)=(X,Y):=⟨_,_,rfl⟩
       rw[hXY2] at hlk2;have HLk2:=hid hlk2;have HXY2:=hid hXY2;have hcond:(m1,m2).1<r.z∧k2+1<s.size:=⟨hz,h1⟩;by_cases hX2:X2=0
       · have q0:decide (0<(X2:Int))=false:=qF (by omega)
         have q0':decide (0<X2)=false:=qF (by omega);have hG2:=G_stay (s:=s) (r:=r) (k:=k2) (m:=(m1,m2)) hk2 hm0 hcond (by rw[hkn];show(mt s r kn (m1:Int)).1=0;rw[hXY2];exact hX2);have HG:=hid (show(L2++[mtk (m1,m2)])++G s r (k2+m1) (0,0)=T from by rw[qD];have:=HTi.out;rw[hG2] at this;exact this);have HBd:=hid (And.intro hk2 (And.intro hmf (And.intro hk3 (And.intro hkn hkk))));clear hG2 hX2 hcond hlk2 hXY2 hSi hMi hTi hMt hm0 hz h1 hk2 hmf hkn hkk hk3
         go_wp2_with (first
          |(go_at_call 61;(with_reducible refine HLk2.out.mono ?_);rintro e w5 ⟨rfl,f5,b5,k5⟩;have hB5:=HM.out.keptT k5 (by have:=HSi.out.hF;omega);have HS5:=hid (HSi.out.look f5 b5 k5);have n0:=hB5.at0;have n1:=hB5.at1;have na0:∀o:Obj,(w5.alloc o).cell? ⟨Mb,0,none⟩=some (.int .i64 m1):=fun o=>Mc.at0 (hB5.of_block (Below.heap_alloc _ o _ hB5.lt));have na1:∀o:Obj,(w5.alloc o).cell? ⟨Mb,1,none⟩=some (.int .i64 m2):=fun o=>Mc.at1 (hB5.of_block (Below.heap_alloc _ o _ hB5.lt));have HB5:=hid hB5;clear f5 b5 k5 hB5)
          |(at_builtin;refine wpList_tq rfl (.tmp 54) (.tmp 60) rfl W.heap.size _ L2 rfl ((HS5.out.alloc (.cells #[.int .i64 X2,.int .i64 Y2] 68)).ow.alloc _) (w5.heap.size+1) 1 0 (m1:Int) (m2:Int) rfl ⟨by simp,by simp,by simp⟩ (by omega) (by have:=(HS5.out.alloc (.cells #[.int .i64 X2,.int .i64 Y2] 68)).bl.size;simp at this ⊢;omega) ?_;intro v' w' o' g' b';have hs5:=(HS5.out.alloc (.cells #[.int .i64 X2,.int .i64 Y2] 68)).alloc (.cells #[.int .u8 0,.int .i64 (m1:Int),.int .i64 (m2:Int)] 64);have hm6:=Mc.app (Mb:=Mb) (x:=(m1:Int)) (y:=(m2:Int)) (old_at _ (old_at _ HB5.out)) hs5 g';have t0:=hm6.at0;clear hm6;have HS6:=hid (((HS5.out.alloc (.cells #[.int .i64 X2,.int .i64 Y2] 68)).alloc _).app g' o' b');clear o' g' b' hs5 na0 na1))
         simp only[Exit.jump];go_wp2_with fail;go_roundw
         case rel=>exact⟨k2+m1,kn,L2++[mtk (m1,m2)],HBd.out.2.1,by go_num,by have:=HBd.out;omega,HS6.out,HG.out⟩
         case measure=>(have hbd:=HBd.out;have hbd1:=hbd.1;have hbd2:=hbd.2.1;have hbd3:=hbd.2.2.2.2;clear hbd;simp[intOf];try omega)
       · have q0:decide (0<(X2:Int))=true:=q9T (by omega)
         have q0':decide (0<X2)=true:=q9T (by omega);have hbt2:=hid (z0H hk2);have hG2:=G_lazy (s:=s) (r:=r) (k:=k2) (m:=(m1,m2)) hk2 hm0 hcond (by rw[hkn];show(mt s r kn (m1:Int)).1≠0;rw[hXY2];exact hX2);rw[hkn] at hG2;have hG3:G s r k2 (m1,m2)=lit s k2::G s r kn (X2,Y2):=by rw[hG2];show _::G s r kn (mt s r kn (m1:Int))=_;rw[hXY2]
         have HG:=hid (show(L2++[lit s k2])++G s r kn (X2,Y2)=T from by rw[qD];have:=HTi.out;rw[hG3] at this;exact this)
         have HMt2:=hid (show Mt s kn (X2,Y2) from by
          have:=(mt_is (s:=s) (r:=r) (k:=kn) (over:=(m1:Int)) (by rw[hXY2];exact hX2)).1;rw[hXY2] at this;exact this)
         have HBd:=hid (And.intro hk3 (And.intro hkn (And.intro hkk h1)));clear hG2 hG3 hX2 hcond hlk2 hXY2 hSi hMi hTi hMt hm0 hz hk3 hkk h1
         go_wp2_with (first
          |(go_at_call 61;(with_reducible refine HLk2.out.mono ?_);rintro e w5 ⟨rfl,f5,b5,k5⟩;have hB5:=HM.out.keptT k5 (by have:=HSi.out.hF;omega);have HS5:=hid (HSi.out.look f5 b5 k5);have n0:=hB5.at0;have n1:=hB5.at1;have na0:∀o:Obj,(w5.alloc o).cell? ⟨Mb,0,none⟩=some (.int .i64 m1):=fun o=>Mc.at0 (hB5.of_block (Below.heap_alloc _ o _ hB5.lt));have na1:∀o:Obj,(w5.alloc o).cell? ⟨Mb,1,none⟩=some (.int .i64 m2):=fun o=>Mc.at1 (hB5.of_block (Below.heap_alloc _ o _ hB5.lt));have HB5:=hid hB5;clear f5 b5 k5 hB5)
          |(at_builtin;refine wpList_tq rfl (.tmp 44) (.tmp 49) rfl W.heap.size _ L2 rfl ((HS5.out.alloc (.cells #[.int .i64 X2,.int .i64 Y2] 68)).ow.alloc _) (w5.heap.size+1) 1 ((s[k2]'hk2).toNat:Int) 0 0 rfl ⟨by simp,by simp,by simp⟩ (by omega) (by have:=HS5.out.bl.size;simp;omega) ?_;intro v' w' o' g' b';have hs6:=((HS5.out.alloc (.cells #[.int .i64 X2,.int .i64 Y2] 68)).alloc (.cells #[.int .u8 ((s[k2]'hk2).toNat:Int),.int .i64 0,.int .i64 0] 64));have hn6:=Mc.app (Mb:=w5.heap.size) (x:=(X2:Int)) (y:=(Y2:Int)) (old_at _ (new_at w5 _)) hs6 g';have hm6:=Mc.app (Mb:=Mb) (x:=(m1:Int)) (y:=(m2:Int)) (old_at _ (old_at _ HB5.out)) hs6 g';have u0:=hn6.at0;have u1:=hn6.at1;have t0:=hm6.at0;have t1:=hm6.at1;have tf0:=hm6.free 0;have tf1:=hm6.free 1;have HM6:=hid hm6;have HS6:=hid (hs6.app g' o' b');clear o' g' b' hs6 hn6 hm6 na0 na1))
         go_step3
         refine⟨rfl,⟨kn,kn,X2,Y2,Mb,v',L2++[lit s k2],⟨_,_,_,_,_,_,_,_,_,_,_,_,_,_,_,_,_,_,_,_,_,_,_,_,_,_,_,_,_,_,_,_,_,_,_,_,_,_,_,_,_,_,_,_,_,_,_,_,_,_,_,_,_,_,_,_,_,rfl⟩,by have:=HBd.out;omega,by omega,by have:=HS6.out;rw[hbt2.out] at this;exact this.set HM6.out hW4 _ _,HM6.out.set _ _,hW4,HMt2.out,by have:=HBd.out;omega,HG.out⟩,?_⟩;have hbd1:=HBd.out.2.1;simp[intOf];omega
     · have z1:decide ((m1:Int)<(r.z:Int))=false:=qF (by omega)
       have z1':decide (m1<r.z)=false:=qF hz;have hG2:=G_take (s:=s) (r:=r) (k:=k2) (m:=(m1,m2)) hk2 hm0 (fun q=>hz q.1);have HG:=hid (show(L2++[mtk (m1,m2)])++G s r (k2+m1) (0,0)=T from by rw[qD];have:=HTi.out;rw[hG2] at this;exact this);have HBd:=hid (And.intro hk2 (And.intro hmf (And.intro hk3 (And.intro hkn hkk))));clear hG2 hSi hMi hTi hMt hm0 hz h1 hk2 hmf hkn hkk hk3;go_wp2_with (at_builtin;refine wpList_tq rfl (.tmp 54) (.tmp 60) rfl W.heap.size _ L2 rfl (HSi.out.ow.alloc _) w2.heap.size 1 0 (m1:Int) (m2:Int) rfl ⟨by simp,by simp,by simp⟩ (by omega) (by have:=HSi.out.bl.size;simp at this ⊢;omega) ?_;intro v' w' o' g' b';have hs5:=HSi.out.alloc (.cells #[.int .u8 0,.int .i64 (m1:Int),.int .i64 (m2:Int)] 64);have hm6:=Mc.app (Mb:=Mb) (x:=(m1:Int)) (y:=(m2:Int)) (old_at _ HM.out) hs5 g';have t0:=hm6.at0;clear hm6;have HS6:=hid (hs5.app g' o' b');clear o' g' b' hs5);simp only[Exit.jump];go_wp2_with fail;go_roundw
       case rel=>exact⟨k2+m1,k3,L2++[mtk (m1,m2)],HBd.out.2.1,by go_num,by have:=HBd.out;omega,HS6.out,HG.out⟩
       case measure=>(have hbd:=HBd.out;have hbd1:=hbd.1;have hbd2:=hbd.2.1;have hbd3:=hbd.2.2.2.2;clear hbd;simp[intOf];try omega)
    case first=>
     intro hp;have HP:=hid hp;have a0:=HS.out.bx.at0;have a1:=HS.out.bx.at1;have a2:=HS.out.bx.at2;have a3:=HS.out.bx.at3;have hlk:=look_any HS.out.fd r k 2 hk' hk hd;obtain⟨X,Y,hXY⟩:∃X Y,mt s r k 2=(X,Y):=⟨_,_,rfl⟩
     rw[hXY] at hlk;have HLk:=hid hlk;have HXY:=hid hXY;have hbt:=hid (z0H hlt);clear hlk hXY hp;by_cases hX:X=0
     · have e0:((X:Int)==0)=true:=by rw[beq_iff_eq];omega
       have e0':(X==0)=true:=by rw[beq_iff_eq];exact hX
       have hG:=G_lit (s:=s) (r:=r) (k:=k) (m:=(0,0)) hlt rfl (by rw[HXY.out];exact hX);have HG:=hid (show(L++[lit s k])++G s r (k+1) (0,0)=T from by rw[qD];have:=HTt.out;rw[hG] at this;exact this);clear hG hX
       go_wp2_with (first
        |(go_at_call 61;(with_reducible refine HLk.out.mono ?_);rintro e w4 ⟨rfl,f4,b4,k4⟩;have HS4:=hid (HS.out.look f4 b4 k4);clear f4 b4 k4)
        |(at_builtin;refine wpList_tq rfl (.tmp 20) (.tmp 25) rfl W.heap.size _ L rfl ((HS4.out.alloc (.cells #[.int .i64 X,.int .i64 Y] 68)).ow.alloc _) (w4.heap.size+1) 1 ((s[k]'hlt).toNat:Int) 0 0 rfl ⟨by simp,by simp,by simp⟩ (by omega) (by have:=HS4.out.bl.size;simp;omega) ?_;intro v' w' o' g' b';have HS5:=hid (((HS4.out.alloc (.cells #[.int .i64 X,.int .i64 Y] 68)).alloc _).app g' o' b');clear o' g' b'))
       simp only[Exit.jump];go_wp2_with fail;go_roundw
       case rel=>exact⟨k+1,k,L++[lit s k],by omega,by go_num,by omega,by have:=HS5.out;rw[hbt.out] at this;exact this,HG.out⟩
       case measure=>(simp[intOf];try omega)
     · have hMt:=(mt_is (s:=s) (r:=r) (k:=k) (over:=2) (by rw[HXY.out];exact hX)).1
       rw[HXY.out] at hMt;have hG:=G_look (s:=s) (r:=r) (k:=k) (m:=(0,0)) hlt rfl (by rw[HXY.out];exact hX);rw[HXY.out] at hG;have HG0:=hid (show L++G s r k (X,Y)=T from by rw[←hG];exact HTt.out);have HMt0:=hid hMt;have e0:((X:Int)==0)=false:=by rw[qN];omega
       have e0':(X==0)=false:=by rw[qN];exact hX
       clear hG hMt hX;go_wp2_with (go_at_call 61;(with_reducible refine HLk.out.mono ?_);rintro e w4 ⟨rfl,f4,b4,k4⟩;have HS4:=hid (HS.out.look f4 b4 k4);clear f4 b4 k4)
       go_step3
       rename_i Qj Kj hK
       refine hK _ _ (HP.out _ _ ?_);exact⟨k,k,X,Y,w4.heap.size,_,L,⟨_,_,_,_,_,_,_,_,_,_,_,_,_,_,_,_,_,_,_,_,_,_,_,_,_,_,_,_,_,_,_,_,_,_,_,_,_,_,_,_,_,_,_,_,_,_,_,_,_,_,_,_,_,_,_,_,_,rfl⟩,hlt,by omega,HS4.out.alloc _,new_at _ _,HS4.out.size,HMt0.out,qR,HG0.out⟩
  · have d1:decide ((k:Int)<(s.size:Int))=false:=qF (by omega)
    have d1':decide (k<s.size)=false:=qF hlt;rw[G_end (by omega),List.append_nil] at hTt;have HS:=hid hS;have HTt:=hid hTt;clear hS hTt;go_wp2_with fail;go_ret;exact⟨_,rfl,by rw[←HTt.out];exact HS.out.ow,HS.out.bl⟩
end Go.Proofs.YtacelhaidcmbcaaGreatDoor.V.Px
namespace Go.Proofs.YtacelhaidcmbcaaGreatDoor.V.Px
open Go.Lib (hid)
open Go Go.RowKit M
open Q (Owq lits lits_length)
theorem zc2:∀L,Q.clq L=clt L
 |[]=>rfl
 |t::l=>by simp only[Q.clq,clt];rw[zc2 l]
theorem _root_.Go.Proofs.YtacelhaidcmbcaaGreatDoor.V.IsTks.of_owq{w:World}{B:Nat}{v:Value}{L:List Tk}(h:Owq B w v L)(hok:∀c∈L,c.ok)(hm:L.length≤maxLen):∃A c,v=.slice A L.length c∧IsTks w A L.length L:=by
 unfold Q.Owq at h;rw[zc2] at h;exact IsTks.of_own h hok hm
def TkR(W:World)(L:List Tk)(e:Ending)(w':World):Prop:=∃A c,e=.returned (.tuple #[.slice A L.length c,.int .i64 0])∧IsTks w' A L.length L∧L.length≤c∧Below W.heap.size W w'
theorem owq_cap{w:World}{B n c:Nat}{A:Option Addr}{L:List Tk}(h:Owq B w (.slice A n c) L):L.length≤c:=by
 obtain⟨_,hh⟩:=h;rcases hh with⟨h1,h2⟩|⟨g,cp,cs,h1,h2,h3,h4,h5,h6,h7⟩
 · omega
 · simp only[Value.slice.injEq] at h1
   obtain⟨_,_,rfl⟩:=h1;omega
theorem tokens_no(dict text:ByteArray)(x:Int)(W:World)(hx:x<0∨9<x):
 Calls Tryz.prog 17 #[.string dict,.string text,.int .i64 x] W fun e w'=>e=.returned (.tuple #[.slice none 0 0,.int .i64 2])∧Below W.heap.size W w':=by
 have HL:=hid (fun w=>zdJ x w hx);clear hx;go_enter Tryz.func17,Tryz.ntmps17;go_wp2_with (go_at_call 35;(with_reducible refine(HL.out _).mono ?_);rintro e w1 ⟨rfl,b1⟩;have B1:=hid b1;clear b1);go_ret2;exact⟨rfl,B1.out⟩
def cutd(d:ByteArray):ByteArray:=d.extract (d.size - 32768) d.size
theorem zbO(d:ByteArray):(cutd d).size=min d.size 32768:=by unfold cutd;rw[ByteArray.size_extract];omega
theorem cutd_all{d:ByteArray}(h:d.size≤32768):cutd d=d:=by
 unfold cutd;rw[show d.size - 32768=0 by omega];exact ByteArray.extract_zero_size
theorem tokens_any(dict text:ByteArray)(i:Nat)(W:World)(H:Lvs W)(hi:1≤i∧i≤9)(hd:dict.size≤1000000)(ht:text.size≤1000000):
 Calls Tryz.prog 17 #[.string dict,.string text,.int .i64 i] W (TkR W (G (cutd dict++text) (Q.lv i) (cutd dict).size (0,0))):=by
 have HL:=hid (zbg i W hi.2 H);obtain⟨hl1,hl2,hl3⟩:=Q.lv_le i hi.2;obtain⟨r,hr⟩:∃r,Q.lv i=r:=⟨_,rfl⟩
 rw[hr] at HL hl1 hl2 hl3 ⊢;have dT:decide (1048576<(text.size:Int))=false:=qF (by omega);have dT':decide (1048576<text.size)=false:=qF (by omega);have di:((i:Int)==0)=false:=by rw[qN];omega
 have di2:(i==0)=false:=by rw[qN];omega
 have di3:¬i=0:=by omega
 obtain⟨lo,hlo⟩:∃lo,dict.size - 32768=lo:=⟨_,rfl⟩
 obtain⟨z,hz⟩:∃z:Int,(dict.size:Int) - 32768=z:=⟨_,rfl⟩
 have hmx:(if(0:Int)<z then z else 0)=(lo:Int):=by split<;>omega
 have hmx2:max (0:Int) z=(lo:Int):=by omega
 have hmx3:max z (0:Int)=(lo:Int):=by omega
 have hlo2:lo≤dict.size:=by omega
 have hz1: -40000≤z:=by omega
 have hz2:z≤1000000:=by omega
 have s2:dict.size - lo+text.size≤9223372036854775807:=by omega
 have hcs:=zbO dict;obtain⟨ah,hah⟩:∃ah,cutd dict=ah:=⟨_,rfl⟩
 have hex:dict.extract lo dict.size=ah:=by rw[←hah,←hlo];rfl
 rw[hah] at hcs ⊢;obtain⟨q,hq⟩:∃q,ah.size=q:=⟨_,rfl⟩
 rw[hq] at hcs ⊢;have hsz:(ah++text).size=ah.size+text.size:=ByteArray.size_append;have s1:ah.size+text.size≤9223372036854775807:=by omega
 obtain⟨s,hs⟩:∃s,ah++text=s:=⟨_,rfl⟩
 rw[hs] at hsz ⊢;have hs2:s.size≤1048576:=by omega
 have hqs:q≤s.size:=by omega
 have e5:(s.size:Int) - (text.size:Int)=(q:Int):=by omega
 have HN:=hid (fun w=>new_any s w hs2);obtain⟨T,hT⟩:∃T,G s r q (0,0)=T:=⟨_,rfl⟩
 have HTo:=hid (show ∀ (W:World) (B F:Nat),Fk W B F s 0→Calls Tryz.prog 38 #[.agg #[.int .i64 r.d,.int .i64 r.n,.int .i64 r.z,.pointer (some ⟨F,0,none⟩)],.string s,.int .i64 q] W fun e w'=> ∃v,e=.returned v∧Owq W.heap.size w' v T∧Below B W w' from fun W B F h=>by
  have:=zfz h r q hqs hl1;rw[hT] at this;exact this)
 have HTok:=hid (show(∀c∈T,c.ok)∧T.length≤maxLen from by
  rw[←hT];refine⟨fun c hc=> ?_,?_⟩
  · obtain⟨_,h1,h2,h3⟩:=G_may s r q (0,0) (fun h=>absurd rfl h) c hc
    exact Tk.ok_of h1 ⟨h2.1,by omega⟩ ⟨h3.1,by omega⟩
  · have:=G_len s r q (0,0) (fun h=>absurd rfl h);unfold maxLen;omega)
 rw[hT];clear hlo hah hT hcs hq hsz hqs hl1 hl2 hl3 H hr hd ht;go_enter Tryz.func17,Tryz.ntmps17
 go_wp2_with (first
  |(go_at_call 35;(refine HL.out.mono ?_);rintro e w1 ⟨rfl,b1⟩;have B1:=hid b1;clear b1)
  |(go_at_call 37;(refine(HN.out _).mono ?_);rintro e w2 ⟨F,rfl,hF,hFd,b2⟩;have HF2:=hid (show Fk w2 w1.heap.size F s 0 from hFd);have B2:=hid (B1.out.trans (b2.mono B1.out.size));clear hFd b2)
  |(go_at_call 38;(refine(HTo.out _ _ _ (HF2.out.below (qL))).mono ?_);rintro e w3 ⟨v,rfl,o3,b3⟩;obtain⟨A,c,rfl,hI⟩:=IsTks.of_owq o3 HTok.out.1 HTok.out.2;have HI:=hid (And.intro hI (owq_cap o3));have B3:=hid ((B2.out.alloc B2.out.size _).trans (b3.mono B1.out.size));clear o3 b3 hI))
 go_ret2;exact⟨A,c,rfl,HI.out.1,HI.out.2,B3.out⟩
end Go.Proofs.YtacelhaidcmbcaaGreatDoor.V.Px
