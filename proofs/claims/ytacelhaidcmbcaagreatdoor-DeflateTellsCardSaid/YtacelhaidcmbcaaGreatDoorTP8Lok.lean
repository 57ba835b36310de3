import Derived.Test.YtacelhaidcmbcaaGreatDoorTP8Lvl
import Derived.Test.YtacelhaidcmbcaaGreatDoorTMP8ChG
import Derived.Test.YtacelhaidcmbcaaGreatDoorTMP8TkK
set_option maxHeartbeats 8000000
set_option maxRecDepth 1000000
namespace Go.Proofs.YtacelhaidcmbcaaGreatDoor.V.Px
open Go.Lib (hid)
open Go Go.RowKit M
set_option linter.unusedVariables false
set_option linter.unusedSimpArgs false
theorem z1X(w:World)(a:Addr)(u:Value):w.grownBy (w.setCell a u) (some a.block):=
 ⟨rfl,rfl,rfl,by simp[World.setCell],fun k hk g=>Below.heap_setCell _ _ _ _ (fun e=>g (by rw[e]))⟩
theorem KT.new{F:Nat}{w w':World}(h:KT F w w'){g:Nat}(hg:w.heap.size≤g)(o:Nat)(v:Value):KT F w (w'.setCell ⟨g,o,none⟩ v):=fun i cs T z q a b=>by
 have hi:=(qW.1 q).1;exact(Below.heap_setCell _ _ _ _ (fun e=>by have e':i=g:=e;omega)).trans (h i cs T z q a b)
open Go.Maps Go.WideElems Go.MapKept in
theorem Fd.off{w w':World}{B F:Nat}{s:ByteArray}{L:List Nat}{la:Int}(H:Fd w B F s L la){g:Nat}{cs:Array Value}{T:TypeId}{z:Nat×Nat}(hg:w.heap[g]? =some (.cells cs T z))(hT:T≠ 3)(hF:g≠F)(hgr:w.grownBy w' (some g)):Fd w' B F s L la:=by
 obtain⟨b,base,D,h1,h2,h3,h4,h5,h6,h7⟩:=H.own;have hne:some g≠some F:=fun e=>hF (by injection e)
 have hF':=hgr.block F H.lt (fun e=>hne e.symm);have hc:∀o x,w.cell? ⟨F,o,none⟩=some x→w'.cell? ⟨F,o,none⟩=some x:=fun o x q=>(World.cell?_of_block (w:=w) (a:=⟨F,o,none⟩) hF').trans q
 refine⟨hc 0 _ H.c0,hc 1 _ H.c1,(World.frozen?_of_block (w:=w) (a:=⟨F,1,none⟩) hF').trans H.fz,⟨b,base,D,hc 2 _ h1,?_,h3,h4,qK h5 hgr.size,h6,h7⟩,H.base,H.rise,H.most,H.len⟩;refine h2.kept hgr (fun e=> ?_) (fun es clock hb x hx=> ?_)
 · obtain⟨es,clock,hb,_⟩:=id h2
   injection e with e
   rw[e,hg] at hb;cases hb
 · obtain⟨es',clock',hb',Ft,_⟩:=id h2
   obtain⟨rfl,rfl⟩:es'=es∧clock'=clock:=by rw[hb'] at hb;simpa using hb
   cases hx':x.val.ownBlock with
   |none=>exact Or.inl rfl
   |some g'=>
    refine Or.inr (fun e1=> ?_);obtain⟨y,hy⟩:=Ft.reads x hx;obtain⟨z',hz',_⟩:=rd_val hy;obtain⟨zs,hoi,_⟩:=rowElem_inv hz';injection e1 with e1
    subst e1;rcases hoi.1.2 with⟨hv,_⟩|⟨g2,cap,cur,hv,_,hh,_⟩
    · rw[hv] at hx';cases hx'
    · rw[hv] at hx'
      simp[Value.ownBlock] at hx';subst hx';rw[hh] at hg;injection hg with hg
      injection hg with _ hg _
      exact hT hg.symm
def Fk(w:World)(B F:Nat)(s:ByteArray)(k:Nat):Prop:=Fd w B F s (List.range k) ((k:Int) - 1)
theorem Fk.below{w w':World}{B F k:Nat}{s:ByteArray}(h:Fk w B F s k)(hb:Below w.heap.size w w'):Fk w' B F s k:=Fd.below h hb
theorem zb4:(Tryz.prog.info? 68).map (fun i=>i.size)=some 2:=by kernel_rfl
def Lk(w:World)(g:Nat)(r:Lv)(F:Nat):Prop:=w.heap[g]? =some (.cells #[.int .i64 r.d,.int .i64 r.n,.int .i64 r.z,.pointer (some ⟨F,0,none⟩)] 91 (0,0))
section
variable {w w':World} {g F:Nat} {r:Lv}
theorem Lk.at0(h:Lk w g r F):w.cell? ⟨g,0,none⟩=some (.int .i64 r.d):=by unfold Lk at h;simp[World.cell?,h]
theorem Lk.at1(h:Lk w g r F):w.cell? ⟨g,1,none⟩=some (.int .i64 r.n):=by unfold Lk at h;simp[World.cell?,h]
theorem Lk.at2(h:Lk w g r F):w.cell? ⟨g,2,none⟩=some (.int .i64 r.z):=by unfold Lk at h;simp[World.cell?,h]
theorem Lk.at3(h:Lk w g r F):w.cell? ⟨g,3,none⟩=some (.pointer (some ⟨F,0,none⟩)):=by unfold Lk at h;simp[World.cell?,h]
theorem Lk.lt(h:Lk w g r F):g<w.heap.size:=(qW.1 h).1
theorem Lk.keptT(h:Lk w g r F)(hk:KT F w w')(hg:g≠F):Lk w' g r F:=hk g _ _ _ h (by decide) hg
end
def Mc(w:World)(g:Nat)(x y:Int):Prop:=w.heap[g]? =some (.cells #[.int .i64 x,.int .i64 y] 68 (0,0))
section
variable {w w':World} {g F:Nat} {x y:Int}
theorem Mc.at0(h:Mc w g x y):w.cell? ⟨g,0,none⟩=some (.int .i64 x):=by unfold Mc at h;simp[World.cell?,h]
theorem Mc.at1(h:Mc w g x y):w.cell? ⟨g,1,none⟩=some (.int .i64 y):=by unfold Mc at h;simp[World.cell?,h]
theorem Mc.free(h:Mc w g x y)(i:Nat):w.frozen? ⟨g,i,none⟩=false:=by unfold Mc at h;simp[World.frozen?,h]
theorem Mc.lt(h:Mc w g x y):g<w.heap.size:=(qW.1 h).1
theorem Mc.of_block(h:Mc w g x y)(e:w'.heap[g]? =w.heap[g]?):Mc w' g x y:=e.trans h
theorem Mc.keptT(h:Mc w g x y)(hk:KT F w w')(hg:g≠F):Mc w' g x y:=hk g _ _ _ h (by decide) hg
theorem Mc.set(h:Mc w g x y)(u v:Int):Mc ((w.setCell ⟨g,0,none⟩ (.int .i64 u)).setCell ⟨g,1,none⟩ (.int .i64 v)) g u v:=by
 have h1:(w.setCell ⟨g,0,none⟩ (.int .i64 u)).heap[g]? =some (.cells #[.int .i64 u,.int .i64 y] 68 (0,0)):=by
  unfold Mc at h;rw[setCell_eq_setRow w g 0 #[.int .i64 x,.int .i64 y] 68 (0,0) (.int .i64 u) h];exact setRow_heap w g #[.int .i64 x,.int .i64 y] #[.int .i64 u,.int .i64 y] 68 (0,0) h
 rw[setCell_eq_setRow _ g 1 #[.int .i64 u,.int .i64 y] 68 (0,0) (.int .i64 v) h1];exact setRow_heap _ g #[.int .i64 u,.int .i64 y] #[.int .i64 u,.int .i64 v] 68 (0,0) h1
end
theorem look_any{W:World}{B F:Nat}{s:ByteArray}{k:Nat}(H:Fk W B F s k)(r:Lv)(t:Nat)(over:Int)(hkt:k≤t)(hts:t≤s.size)(hd:r.d≤1000000):
 Calls Tryz.prog 61 #[.agg #[.int .i64 r.d,.int .i64 r.n,.int .i64 r.z,.pointer (some ⟨F,0,none⟩)],.int .i64 t,.int .i64 over] W fun e w'=>e=.returned (.agg #[.int .i64 ((mt s r t over).1:Nat),.int .i64 ((mt s r t over).2:Nat)])∧Fk w' B F s t∧Below B W w'∧KT F W w':=by
 obtain⟨X,Y,hXY⟩:∃X Y,mt s r t over=(X,Y):=⟨_,_,rfl⟩
 rw[hXY]
 have HF:=hid (show ∀w,Fk w B F s t→Calls Tryz.prog 90 #[.pointer (some ⟨F,0,none⟩),.int .i64 t,.int .i64 r.d,.int .i64 r.n,.int .i64 over] w fun e w'=>e=.returned (.agg #[.int .i64 (X:Nat),.int .i64 (Y:Nat)])∧Below w.heap.size w w' from fun w h=>by
  have:=zdZ h t (r.d:Int) (r.n:Int) over (by omega);unfold mt at hXY;rw[hXY] at this;exact this)
 have hlen:=H.len;have hFlt:=H.lt;have hbase:=H.base;have hb0:Below W.heap.size W ((W.alloc (.cells #[.int .i64 r.d,.int .i64 r.n,.int .i64 r.z,.pointer (some ⟨F,0,none⟩)] 91)).alloc (.cells #[.int .i64 0,.int .i64 0] 68)):=((Below.refl _ W).alloc qR _).alloc (by simp) _;have hw0:=Fk.below H hb0;have hr0:Lk ((W.alloc (.cells #[.int .i64 r.d,.int .i64 r.n,.int .i64 r.z,.pointer (some ⟨F,0,none⟩)] 91)).alloc (.cells #[.int .i64 0,.int .i64 0] 68)) W.heap.size r F:=old_at _ (new_at _ _)
 have hm0:Mc ((W.alloc (.cells #[.int .i64 r.d,.int .i64 r.n,.int .i64 r.z,.pointer (some ⟨F,0,none⟩)] 91)).alloc (.cells #[.int .i64 0,.int .i64 0] 68)) (W.heap.size+1) 0 0:=by
  have:=new_at (W.alloc (.cells #[.int .i64 r.d,.int .i64 r.n,.int .i64 r.z,.pointer (some ⟨F,0,none⟩)] 91)) (.cells #[.int .i64 0,.int .i64 0] 68);rw[World.size_alloc] at this;exact this
 have HL:=hid (zdL hw0);have HW0:=hid hw0;have HB0:=hid (hb0.mono (show B≤W.heap.size by omega));have HK0:=hid (KT.of_below (F:=F) hb0);have HR0:=hid hr0;have HM0:=hid hm0;have a3:=hr0.at3;have e1:(k:Int) - 1+1=(k:Int):=by omega
 have hne:W.heap.size≠F:=by omega
 have hne2:W.heap.size+1≠F:=by omega
 have HN:=hid (And.intro hne hne2);obtain⟨d,n,z⟩:=r;simp only at hd ⊢;clear H hXY hw0 hb0 hr0 hm0 hne hne2;go_enter Tryz.func61,Tryz.ntmps61;go_wp2_with (go_at_call 88;(with_reducible refine HL.out.mono ?_);rintro e w2 ⟨rfl,rfl⟩);clear a3 e1
 go_loopw [7] (fun x wr=> ∃j:Nat,k≤j∧j≤t∧x=.int .i64 j∧Fk wr B F s j∧Below B W wr∧KT F W wr∧Lk wr W.heap.size ⟨d,n,z⟩ F∧Mc wr (W.heap.size+1) 0 0) (fun x _=>t - (intOf x).toNat)
 case atStart=>exact⟨k,qR,hkt,rfl,HW0.out,HB0.out,HK0.out,HR0.out,HM0.out⟩
 case round=>
  obtain⟨j,hj1,hj2,rfl,hF,hB,hK,hR,hM⟩:=hrel;have a3:=hR.at3;by_cases hlt:j<t
  · have d1:decide ((j:Int)<(t:Int))=true:=q9T (by omega)
    have d1':decide (j<t)=true:=q9T hlt;have HP:=hid (zhL hF j (by omega) (by omega) (fun p hp=>List.mem_range.1 hp));have HB:=hid hB;have HK:=hid hK;have HR:=hid hR;have HM:=hid hM;clear hF hB hK hR hM;go_wp2_with (go_at_call 89;(with_reducible refine HP.out.mono ?_);rintro e w2 ⟨rfl,hf2,hb2,hk2⟩;have HF2:=hid hf2;have HB2:=hid (HB.out.trans hb2);have HK2:=hid hk2;clear hf2 hb2 hk2);go_roundw
    case rel=>exact⟨j+1,by omega,by omega,by go_num,by
     have:=HF2.out;unfold Fk;rw[List.range_succ,show(((j+1:Nat):Int) - 1)=(j:Int) by omega];exact this,HB2.out,HK.out.trans HK2.out,HR.out.keptT HK2.out HN.out.1,HM.out.keptT HK2.out HN.out.2⟩
    case measure=>(simp[intOf];try omega)
  · obtain rfl:j=t:=by omega
    have d1:decide ((j:Int)<(j:Int))=false:=qF (by omega);have d1':decide (j<j)=false:=qF (by omega);have a0:=hR.at0;have a1:=hR.at1;have HP:=hid (HF.out wr hF);have HFk:=hid hF;have HB:=hid hB;have HK:=hid hK;have HM:=hid hM;clear hF hB hK hR hM HF;go_wp2_with (go_at_call 90;(with_reducible refine HP.out.mono ?_);rintro e w2 ⟨rfl,hb2⟩;have hM2:=HM.out.of_block (hb2.block _ HM.out.lt);have m0:=hM2.at0;have m1:=hM2.at1;have mf0:=hM2.free 0;have mf1:=hM2.free 1;have HM2:=hid hM2;have HF2:=hid (HFk.out.below hb2);have HK2:=hid (HK.out.trans (KT.of_below hb2));have HB2:=hid (HB.out.trans (hb2.mono (by have:=HFk.out.base;have:=HFk.out.lt;omega)));clear hb2 hM2);have hFl:=HF2.out.lt;have hsz:W.heap.size≤W.heap.size+1:=Nat.le_succ _;have HS:=hid (HM2.out.set (X:Int) (Y:Int));have hg:=(z1X w2 ⟨W.heap.size+1,0,none⟩ (.int .i64 (X:Int))).trans (z1X _ ⟨W.heap.size+1,1,none⟩ (.int .i64 (Y:Int)));refine bodyPost_ret (v:=.agg #[.int .i64 (X:Int),.int .i64 (Y:Int)]) (results_cell_row rfl _ _ (W.heap.size+1) _ _ _ _ rfl HS.out Tryz.underlying68 rfl zb4) rfl ⟨rfl,Fd.off HF2.out HM2.out (by decide) HN.out.2 hg,(HB2.out.setCell (p:=⟨W.heap.size+1,0,none⟩) (by show B≤W.heap.size+1;omega) _).setCell (p:=⟨W.heap.size+1,1,none⟩) (by show B≤W.heap.size+1;omega) _,(HK2.out.new hsz 0 _).new hsz 1 _⟩
end Go.Proofs.YtacelhaidcmbcaaGreatDoor.V.Px
