/- Texts of one place, one behind the other: JdD, JdE, JdF, JdG, JdH. -/
import Derived.Test.YtdpabanajgegjaaGreatDoorEJdC
import Derived.Test.YtdpabanajgegjaaGreatDoorEMIfU
import Derived.Test.YtdpabanajgegjaaGreatDoorEMRsA
import Derived.Test.YtdpabanajgegjaaGreatDoorEMMath
import Derived.Test.YtdpabanajgegjaaGreatDoorEMRns
import Derived.Test.YtdpabanajgegjaaGreatDoorEMPkE
set_option maxRecDepth 1000000
set_option linter.unusedVariables false
set_option linter.unusedSimpArgs false
namespace Go.Proofs.YtdpabanajgegjaaGreatDoor.I
open Go Go.RowKit M
section
variable {w W w':World} {B g r D L e n v:Nat} {s:ByteArray} {x y x1:St} {z:Int}
theorem Rres.go(o:Rres w B g r s D L e x W)(hk:Kept NoB W w'):Rres w B g r s D L e x w':=by
 obtain⟨k,r1,h1,h2⟩:=o;exact⟨k.trans hk (fun _ e=>e.elim),r1,h1,h2.same hk⟩
theorem Rres.cells(o:Rres w B g r s D L e x W):W.cell? ⟨g,0,none⟩=some (.string s)∧W.cell? ⟨g,1,none⟩=some (.int .i64 (x.1:Int))∧W.cell? ⟨g,2,none⟩=some (.int .i64 (e:Int))∧(∀i,W.frozen? ⟨g,i,none⟩=false):=by
 obtain⟨k,r1,h1,h2⟩:=o;obtain⟨cp,c0,c1,c2,c3,c4,c5,cf,hy⟩:=h2.cells;exact⟨c0,c1,c2,cf⟩
theorem Rres.out(o:Rres w B g r s D L e x W):∃r1 cp,W.cell? ⟨g,3,none⟩=some (.slice (some ⟨r1,0,none⟩) x.2.length cp)∧Ry W r1 cp x.2:=by
 obtain⟨k,r1,h1,h2⟩:=o;obtain⟨cp,c0,c1,c2,c3,c4,c5,cf,hy⟩:=h2.cells;exact⟨r1,cp,c3,hy⟩
theorem Rres.al(o:Rres w B g r s D L e x W):x.1≤8*s.size:=by obtain⟨k,r1,h1,h2⟩:=o;exact h2.al
theorem Rres.dl(o:Rres w B g r s D L e x W):D≤x.2.length:=by obtain⟨k,r1,h1,h2⟩:=o;exact h2.dl
theorem Rres.ll(o:Rres w B g r s D L e x W):x.2.length - D≤L:=by obtain⟨k,r1,h1,h2⟩:=o;exact h2.ll
theorem Rres.setA(o:Rres w B g r s D L e x W)(a:Nat)(z:Int)(hz:z=(a:Int))(ha:a≤8*s.size):Rres w B g r s D L e (a,x.2) (W.setCell ⟨g,1,none⟩ (.int .i64 z)):=by
 subst hz;obtain⟨k,r1,h1,h2⟩:=o;obtain⟨j1,j2⟩:=h2.setA a ha;exact⟨k.trans j2 (fun _ e=> .inl (.inl e)),r1,h1,j1⟩
theorem Rres.bits_ok(o:Rres w B g r s D L 0 x W)(hs:s.size≤100000)(hz:z=(n:Int))(hn:n≤16)(h:bits n s D L x=.ok (v,x1)):
 Calls Tryz.prog 71 #[.pointer (some ⟨g,0,none⟩),.int .i64 z] W fun e w'=>e=.returned (.int .i64 (v:Int))∧Rres w B g r s D L 0 x1 w':=by
 subst hz;have:=o.lift fun r1 _ i=>rbits_c i hs n hn
 rw[h] at this;exact this
theorem Rres.bits_no{c:Nat}(o:Rres w B g r s D L 0 x W)(hs:s.size≤100000)(hz:z=(n:Int))(hn:n≤16)(h:bits n s D L x=.error c):
 Calls Tryz.prog 71 #[.pointer (some ⟨g,0,none⟩),.int .i64 z] W fun e w'=>e=.returned (.int .i64 0)∧c≠0∧∃y,Rres w B g r s D L c y w':=by
 subst hz;have:=o.lift fun r1 _ i=>rbits_c i hs n hn
 rw[h] at this;exact this
theorem Rres.bits_e(o:Rres w B g r s D L e x W)(he:e≠0)(hz:z=(n:Int))(hn:n≤1000):
 Calls Tryz.prog 71 #[.pointer (some ⟨g,0,none⟩),.int .i64 z] W fun e' w'=>e'=.returned (.int .i64 0)∧Rres w B g r s D L e x w':=by
 subst hz;have h:=o;obtain⟨k,r1,h1,h2⟩:=o;exact(rbits_e h2 he n hn).mono fun e' w' q=>⟨q.1,h.go q.2⟩
theorem Rres.fail(o:Rres w B g r s D L 0 x W)(c:Nat)(hz:z=(c:Int)):
 Calls Tryz.prog 76 #[.pointer (some ⟨g,0,none⟩),.int .i64 z] W fun e' w'=>e'=.returned (.tuple #[])∧Rres w B g r s D L c x w':=by
 obtain⟨k,r1,h1,h2⟩:=o;exact(rfail_r h2 c z hz).mono fun e' w' q=>⟨q.1,Rres.trans k h1 q.2⟩
theorem Rres.add_e(o:Rres w B g r s D L e x W)(he:e≠0)(k:Nat)(hz:z=(k:Int)):
 Calls Tryz.prog 108 #[.pointer (some ⟨g,0,none⟩),.int .i64 z] W fun e' w'=>e'=.returned (.bool false)∧W=w':=by
 subst hz;obtain⟨_,r1,h1,h2⟩:=o;exact radd_e h2 he k
theorem Rres.add_no(o:Rres w B g r s D L 0 x W){k:Nat}(hz:z=(k:Int))(hk:k≤100000000)(hx:D+L≤1000000000)(hL:L<x.2.length - D+k):
 Calls Tryz.prog 108 #[.pointer (some ⟨g,0,none⟩),.int .i64 z] W fun e' w'=>e'=.returned (.bool false)∧Rres w B g r s D L 5 x w':=by
 subst hz;have:=o.ll;obtain⟨k1,r1,h1,h2⟩:=o;exact(radd_no h2 hk (by omega) hL).mono fun e' w' q=>⟨q.1,Rres.trans k1 h1 q.2⟩
theorem Rres.add_yes(o:Rres w B g r s D L 0 x W){k:Nat}(hz:z=(k:Int))(hk:k≤100000000)(hx:D+L≤1000000000)(hL:¬L<x.2.length - D+k):
 Calls Tryz.prog 108 #[.pointer (some ⟨g,0,none⟩),.int .i64 z] W fun e' w'=>e'=.returned (.bool true)∧∃n,w'=W.drewN n:=by
 subst hz;have:=o.ll;obtain⟨k1,r1,h1,h2⟩:=o;exact radd_yes h2 hk (by omega) hL
theorem Rres.app(o:Rres w B g r s D L e x W){w1 w2:World}(h1:Kept NoB W w1){l:List UInt8}{r1 cp1:Nat}(hc:W.cell? ⟨g,3,none⟩=some (.slice (some ⟨r1,0,none⟩) x.2.length cp1)){g' cp':Nat}(hy:Ry w2 g' cp' (x.2++l))(hg:w1.grownBy w2 (some r1))(ho:g'=r1∨w1.heap.size≤g'){n:Nat}(hn:n=(x.2++l).length)(hL:x.2.length - D+l.length≤L):
 Rres w B g r s D L e (x.1,x.2++l) (w2.setCell ⟨g,3,none⟩ (.slice (some ⟨g',0,none⟩) n cp')):=by
 obtain⟨k,r2,hr,hi⟩:=o;obtain⟨cp,c0,c1,c2,c3,c4,c5,cf,hy2⟩:=hi.cells;rw[hc] at c3;injection c3 with c3
 injection c3 with c3 _ _
 injection c3 with c3
 injection c3 with c3 _ _
 subst c3;obtain⟨j1,j2,j3⟩:=hi.app h1 hy hg ho hn hL;refine⟨Kept.cg_trans k j2 hr,g',?_,j1⟩;rcases j3 with e|e
 · rw[e];exact hr
 · have:=k.size;exact .inr (by omega)
theorem Rres.glt(o:Rres w B g r s D L e x W):g<W.heap.size:=by obtain⟨k,r1,h1,h2⟩:=o;exact h2.glt
theorem step_ays{ops:Array Oper}{o:Oper}{a:Act}{w:World}{K:Act→World→Prop}{Q:Exit→Act→World→Prop}{E:Prop}(hgd:o.guard=none)(s x:Operand)
 (ho:o.op=.call {callee:=.builtin .append,args:= #[s,x],argTypes:= #[23,9]}) (g n cp:Nat) (bs:List UInt8) (hs:a.eval s=.slice (some ⟨g,0,none⟩) n cp) (h:Ry w g cp bs) (hn:bs.length=n)
 (t:ByteArray) (hx:a.eval x=.string t) (hm:n+t.size≤10000000000)
 (hK:∀g' cp' w',Ry w' g' cp' (bs++t.data.toList)→w.grownBy w' (some g)→(g'=g∨w.heap.size≤g')→K (a.put o.dst (.slice (some ⟨g',0,none⟩) (bs++t.data.toList).length cp')) w'):
 if Region.wanted o (yielded ops a.tmps)=true then Oper.wp Tryz.prog o a w K Q else E:=by
 have hw:Region.wanted o (yielded ops a.tmps)=true:=by simp[Region.wanted,hgd]
 rw[if_pos hw];obtain⟨v,w',r1,g',cp',rfl,r2,r3,r4⟩:=run_ays w o.type g n cp bs h hn t hm;unfold Oper.wp execOp;simp only[ho,resolve,invoke,builtin,Sem.run_bind,Sem.run_pure,Result.andThen_ok,List.map_toArray,List.map_cons,List.map_nil,hs,hx,r1];exact hK g' cp' w' r2 r3 r4
end
end Go.Proofs.YtdpabanajgegjaaGreatDoor.I
namespace Go.Proofs.YtdpabanajgegjaaGreatDoor.I
open Go.Lib (hid)
open Go Go.RowKit M
section
variable {w:World} {B g r D L e:Nat} {s:ByteArray} {x:St}
set_option maxHeartbeats 4000000 in
theorem rstored_c(h:Rin w B g r s D L 0 x)(hs:s.size≤100000)(hDL:D+L≤1000000000):
 Calls Tryz.prog 72 #[.pointer (some ⟨g,0,none⟩)] w (Rout w B g r s D L (stor s D L x) Rnil Rnone):=by
 obtain⟨cp,c0,c1,c2,c3,c4,c5,cf,hy⟩:=h.cells;have hal:=h.al;obtain⟨R,hR⟩:∃R,stor s D L x=R:=⟨_,rfl⟩
 rw[hR];unfold stor at hR;rw[bnd_of (show algn s D L x=.ok ((),(8*((x.1+7) /8),x.2)) from rfl)] at hR;obtain⟨q,hq⟩:∃q,(x.1+7) /8=q:=⟨_,rfl⟩
 rw[hq] at hR;have HO1:=hid (fun(z:Int) (hz:z=((8*q:Nat):Int))=>h.start.setA (8*q) z hz (by omega));obtain⟨a,ha⟩:∃a,x.1=a:=⟨_,rfl⟩
 rw[ha] at c1 hq hal;have cf1:=cf 1;have t1:((a:Int)+7).tdiv 8=(q:Int):=by rw[Int.tdiv_eq_ediv_of_nonneg (by omega)];omega
 have t2:IntKind.i64.wrap ((a:Int)+7)=(a:Int)+7:=IntWalk.i64_in _ ⟨by omega,by omega⟩;obtain⟨x0,hx0⟩:∃x0:St,(8*q,x.2)=x0:=⟨_,rfl⟩
 have hq8:x0.1=8*q:=by rw[←hx0]
 rw[hx0] at HO1 hR;clear h hy c0 c2 c3 c4 c5 cf ha hx0;cases h1:bits 16 s D L x0 with
 |error c=>
  rw[bnd_er h1] at hR;subst hR;have HB:=hid (fun(W:World) (o:Rres w B g r s D L 0 x0 W)=>o.bits_no (z:=16) hs rfl (by decide) h1);clear h1;go_enter Tryz.func72,Tryz.ntmps72
  go_wp2_with (first
   |(go_at_call 71;(with_reducible refine(HB.out _ (HO1.out _ (by omega))).mono ?_);rintro e w2 ⟨rfl,q2,y2,o2⟩;have HE:=hid (o2.bits_e q2 (z:=16) (n:=16) rfl (by decide));have Q2:=hid q2;clear o2 q2)
   |(go_at_call 71;(with_reducible refine HE.out.mono ?_);rintro e w3 ⟨rfl,o3⟩;obtain⟨d0,d1,d2,df⟩:=o3.cells;have dn:((c:Int) !=0)=true:=(by rw[bne_iff_ne];have:=Q2.out;omega);have O3:=hid o3;clear o3 d0 d1 df))
  go_end0;exact⟨rfl,Q2.out,_,O3.out⟩
 |ok p=>
  obtain⟨n,x1⟩:=p;rw[bnd_of h1] at hR;obtain⟨hn,hx1⟩:=bits_lt h1 65536 (by decide);have HB:=hid (fun(W:World) (o:Rres w B g r s D L 0 x0 W)=>o.bits_ok (z:=16) hs rfl (by decide) h1);clear h1;cases h2:bits 16 s D L x1 with
  |error c=>
   rw[bnd_er h2] at hR;subst hR;have HC:=hid (fun(W:World) (o:Rres w B g r s D L 0 x1 W)=>o.bits_no (z:=16) hs rfl (by decide) h2);clear h2;go_enter Tryz.func72,Tryz.ntmps72
   go_wp2_with (first
    |(go_at_call 71;(with_reducible refine(HB.out _ (HO1.out _ (by omega))).mono ?_);rintro e w2 ⟨rfl,o2⟩;have O2:=hid o2;clear o2)
    |(go_at_call 71;(with_reducible refine(HC.out _ O2.out).mono ?_);rintro e w3 ⟨rfl,q3,y3,o3⟩;obtain⟨d0,d1,d2,df⟩:=o3.cells;have dn:((c:Int) !=0)=true:=(by rw[bne_iff_ne];omega);have O3:=hid o3;have Q3:=hid q3;clear o3 d0 d1 df q3))
   go_end0;exact⟨rfl,Q3.out,_,O3.out⟩
  |ok p=>
   obtain⟨t,x2⟩:=p;rw[bnd_of h2] at hR;obtain⟨ht,hx2⟩:=bits_lt h2 65536 (by decide);have HC:=hid (fun(W:World) (o:Rres w B g r s D L 0 x1 W)=>o.bits_ok (z:=16) hs rfl (by decide) h2);clear h2;obtain⟨a2,ha2⟩:∃a2,x2.1=a2:=⟨_,rfl⟩
   have ha3:a2=8*(q+4):=by rw[←ha2,hx2,hx1];simp only;omega
   obtain⟨p,hp⟩:∃p,q+4=p:=⟨_,rfl⟩
   rw[hp] at ha3;have hbp:(x2.1+7) /8=p:=by omega
   have t3:(a2:Int).tdiv 8=(p:Int):=by rw[Int.tdiv_eq_ediv_of_nonneg (by omega)];omega
   have t4:IntKind.i64.wrap ((n:Int)+(t:Int))=(n:Int)+(t:Int):=IntWalk.i64_in _ ⟨by omega,by omega⟩;have hcl:=fun(W:World) (o:Rres w B g r s D L 0 x2 W)=>o.cells
   simp only[ha2] at hcl;have HCl:=hid hcl;clear hcl hx1 hx2 hq8;by_cases hq:n+t≠65535
   · rw[if_pos hq] at hR
     subst hR;have d0:((n:Int)+(t:Int) !=65535)=true:=by rw[bne_iff_ne];omega
     clear hq;go_enter Tryz.func72,Tryz.ntmps72
     go_wp2_with (first
      |(go_at_call 71;(with_reducible refine(HB.out _ (HO1.out _ (by omega))).mono ?_);rintro e w2 ⟨rfl,o2⟩;have O2:=hid o2;clear o2)
      |(go_at_call 71;(with_reducible refine(HC.out _ O2.out).mono ?_);rintro e w3 ⟨rfl,o3⟩;obtain⟨d0,d1,d2,df⟩:=HCl.out _ o3;have HF:=hid (o3.fail (z:=161) 161 rfl);clear o3 d0 d1 df)
      |(go_at_call 76;(with_reducible refine HF.out.mono ?_);rintro e w4 ⟨rfl,o4⟩;have O4:=hid o4;clear o4))
     go_end0;exact⟨rfl,by decide,_,O4.out⟩
   · rw[if_neg hq] at hR
     have d0:((n:Int)+(t:Int) !=65535)=false:=by rw[bne_eq_false_iff_eq];omega
     clear hq;by_cases hf:p+n≤s.size
     · have eb:byts n s D L x2=.ok (byt s p n,(8*(p+n),x2.2)):=by unfold byts;rw[hbp,if_pos hf]
       rw[bnd_of eb] at hR;have d3:decide ((s.size:Int) - (p:Int)<(n:Int))=false:=decide_eq_false (by omega);have hbl:=byt_length hf;have hus:(s.extract p (p+n)).size=n:=by rw[ByteArray.size_extract];omega
       have hext:=byt_ext s p n;obtain⟨TX,hTX⟩:∃TX,s.extract p (p+n)=TX:=⟨_,rfl⟩
       rw[hTX] at hus hext;rw[←hext] at hR
       have hap:app TX.data.toList s D L (8*(p+n),x2.2)=if L<x2.2.length - D+n then .error 5 else .ok ((),(8*(p+n),x2.2++TX.data.toList)):=by
        show(if L<x2.2.length - D+TX.data.toList.length then _ else _)=_
        rw[hext,hbl]
       rw[hap] at hR;clear hap eb;by_cases hl:L<x2.2.length - D+n
       · rw[if_pos hl] at hR
         subst hR;have HT:=hid (fun(W:World) (o:Rres w B g r s D L 0 x2 W)=>o.add_no (k:=n) rfl (by omega) hDL hl);clear hl hext hbl;go_enter Tryz.func72,Tryz.ntmps72
         go_wp2_with (first
          |(go_at_call 71;(with_reducible refine(HB.out _ (HO1.out _ (by omega))).mono ?_);rintro e w2 ⟨rfl,o2⟩;have O2:=hid o2;clear o2)
          |(go_at_call 71;(with_reducible refine(HC.out _ O2.out).mono ?_);rintro e w3 ⟨rfl,o3⟩;obtain⟨d0,d1,d2,df⟩:=HCl.out _ o3;have O3:=hid o3;clear o3 df)
          |(go_at_call 108;(with_reducible refine(HT.out _ O3.out).mono ?_);rintro e w4 ⟨rfl,o4⟩;have O4:=hid o4;clear o4))
         go_end0;exact⟨rfl,by decide,_,O4.out⟩
       · rw[if_neg hl] at hR
         subst hR;have HT:=hid (fun(W:World) (o:Rres w B g r s D L 0 x2 W)=>o.add_yes (k:=n) rfl (by omega) hDL hl);have hlM:(x2.2++TX.data.toList).length=x2.2.length+n:=by rw[List.length_append,hext,hbl]
         have HlM:=hid hlM;have hll2:x2.2.length - D+TX.data.toList.length≤L:=by rw[hext,hbl];omega
         have HAp:=hid (fun(W w1 w4:World) (r1 cp1 g' cp' N:Nat) (o:Rres w B g r s D L 0 x2 W) (hk:Kept NoB W w1) (hc:W.cell? ⟨g,3,none⟩=some (.slice (some ⟨r1,0,none⟩) x2.2.length cp1)) (hy:Ry w4 g' cp' (x2.2++TX.data.toList)) (hg:w1.grownBy w4 (some r1)) (ho:g'=r1∨w1.heap.size≤g') (hN:N=(x2.2++TX.data.toList).length)=>o.app hk hc hy hg ho hN hll2);clear hext hbl hll2;go_enter Tryz.func72,Tryz.ntmps72
         go_wp2_with (first
          |(go_at_call 71;(with_reducible refine(HB.out _ (HO1.out _ (by omega))).mono ?_);rintro e w2 ⟨rfl,o2⟩;have O2:=hid o2;clear o2)
          |(go_at_call 71;(with_reducible refine(HC.out _ O2.out).mono ?_);rintro e w3 ⟨rfl,o3⟩;obtain⟨d0,d1,d2,df⟩:=HCl.out _ o3;have O3:=hid o3;clear o3)
          |(go_at_call 108;(with_reducible refine(HT.out _ O3.out).mono ?_);rintro e w4 ⟨rfl,n4,rfl⟩))
         obtain⟨r1,cp1,k3,ky⟩:=O3.out.out;have hgl:=O3.out.glt
         have hgr:g≠r1:=fun e=>by
          obtain⟨_,r9,_,i9⟩:=O3.out;obtain⟨cp9,_,_,_,k9,_⟩:=i9.cells;have h9:=i9.gr;rw[k3] at k9;injection k9 with k9
          injection k9 with k9 _ _
          injection k9 with k9
          injection k9 with k9 _ _
          exact h9 (e.trans k9)
         obtain⟨m,hm⟩:∃m,x2.2.length=m:=⟨_,rfl⟩
         have hl1:=O3.out.ll;have hl2:=O3.out.dl;rw[hm] at k3 hl1 hl2;have HM:=hid hm;have HTX:=hid hTX;have KY:=hid ky;have K3:=hid k3;have d33:=df 3;have d31:=df 1;obtain⟨M,hM⟩:∃M,p+n=M:=⟨_,rfl⟩
         have t5:IntKind.i64.wrap ((p:Int)+(n:Int))=(M:Int):=by rw[IntWalk.i64_in _ ⟨by omega,by omega⟩];omega
         have t7:p≤M:=by omega
         have t8:M≤s.size:=by omega
         have HMn:=hid hM;rw[hM] at HTX;clear ky df hm hM hf hTX
         go_region_law (refine step_ays rfl (.tmp 54) (.tmp 63) rfl r1 m cp1 x2.2 rfl (KY.out.of_block rfl) HM.out TX (congrArg Value.string HTX.out) (by omega) ?_;intro g' cp' w6 r2 gr6 o6
                        have HL6:=hid (HAp.out _ _ w6 r1 cp1 g' cp' _ O3.out ((Kept.refl NoB w3).drewN _) (by rw[HM.out];exact K3.out) r2 gr6 o6 rfl);have w6b:=(gr6.block g hgl (by intro e;injection e with e;exact hgr e));have w6c:=(World.cell?_of_block (a:=⟨g,1,none⟩) w6b).trans d1;have w6f:=(World.frozen?_of_block (a:=⟨g,3,none⟩) w6b).trans d33;have w6g:=(World.frozen?_of_block (a:=⟨g,1,none⟩) w6b).trans d31;have w6k:=(World.cell?_of_block (a:=⟨g,3,none⟩) w6b).trans k3;clear w6b r2 gr6 o6)
         all_goals
          clear K3 k3;have HL7:=hid HL6.out;clear HL6;rw[HlM.out,HM.out] at HL7;rw[HM.out];go_wp2_with fail;go_end0;refine⟨rfl,?_⟩;have hz:=HL7.out.setA (8*(p+n)) ((8:Int)*(p:Int)+8*(n:Int)) (by omega) (by have:=HMn.out;omega);exact hz
     · have eb:byts n s D L x2=.error 6:=by unfold byts;rw[hbp,if_neg hf]
       rw[bnd_er eb] at hR;subst hR;have d3:decide ((s.size:Int) - (p:Int)<(n:Int))=true:=decide_eq_true (by omega);go_enter Tryz.func72,Tryz.ntmps72
       go_wp2_with (first
        |(go_at_call 71;(with_reducible refine(HB.out _ (HO1.out _ (by omega))).mono ?_);rintro e w2 ⟨rfl,o2⟩;have O2:=hid o2;clear o2)
        |(go_at_call 71;(with_reducible refine(HC.out _ O2.out).mono ?_);rintro e w3 ⟨rfl,o3⟩;obtain⟨d0,d1,d2,df⟩:=HCl.out _ o3;have HF:=hid (o3.fail (z:=6) 6 rfl);clear o3 df)
        |(go_at_call 76;(with_reducible refine HF.out.mono ?_);rintro e w4 ⟨rfl,o4⟩;have O4:=hid o4;clear o4))
       go_end0;exact⟨rfl,by decide,_,O4.out⟩
end
def rms(g N:Nat)(w:World):Nat:=match w.cell? ⟨g,2,none⟩ with
 |some (.int _ z)=>if z=0 then match w.cell? ⟨g,1,none⟩ with
  |some (.int _ a)=>N+1 - a.toNat
  |_=>0 else 0
 |_=>0
section
variable {w W w':World} {B g r D L e n v:Nat} {s:ByteArray} {x y x1:St} {z:Int}
theorem Rres.rms_0(o:Rres w B g r s D L 0 x W)(N:Nat):rms g N W=N+1 - x.1:=by
 obtain⟨c0,c1,c2,cf⟩:=o.cells;unfold rms;rw[c2,c1];simp
theorem Rres.rms_e(o:Rres w B g r s D L e x W)(he:e≠0)(N:Nat):rms g N W=0:=by
 obtain⟨c0,c1,c2,cf⟩:=o.cells;unfold rms;rw[c2];have:¬((e:Nat):Int)=0:=by omega
 exact if_neg this
theorem ry_allocN{w:World}{g cp n:Nat}{bs:List UInt8}(h:Ry w g cp bs)(o:Obj):Ry ((w.drewN n).alloc o) g cp bs:=h.of_block (Below.heap_alloc (w.drewN n) _ _ h.lt)
theorem new_cell1{w:World}{n:Nat}{t:TypeId}(v:Value):((w.drewN n).alloc (.cells #[v] t)).cell? ⟨w.heap.size,0,none⟩=some v:=by
 have h:((w.drewN n).alloc (.cells #[v] t)).heap[w.heap.size]? =some (.cells #[v] t (0,0)):=heap_alloc_new (w.drewN n) _;unfold World.cell?;simp only[h];rfl
theorem new_size{w:World}{n k:Nat}(o:Obj)(h:k<w.heap.size):k<((w.drewN n).alloc o).heap.size:=by
 have:((w.drewN n).alloc o).heap.size=w.heap.size+1:=by show((w.drewN n).heap.push o).size=_;rw[Array.size_push];rfl
 omega
theorem drewN_block{w:World}{n k:Nat}(o:Obj)(h:k<w.heap.size):((w.drewN n).alloc o).heap[k]? =w.heap[k]? :=Below.heap_alloc (w.drewN n) _ _ h
theorem Rres.bits(o:Rres w B g r s D L 0 x W)(hs:s.size≤100000)(hz:z=(n:Int))(hn:n≤16):
 Calls Tryz.prog 71 #[.pointer (some ⟨g,0,none⟩),.int .i64 z] W (Rout w B g r s D L (I.bits n s D L x) Rnum Rzero):=by
 subst hz;exact o.lift fun r1 _ i=>rbits_c i hs n hn
theorem Rres.code(o:Rres w B g r s D L 0 x W)(hs:s.size≤100000){A:Option Addr}{m c:Nat}{l:Nat→Nat}(hA:Apn w g r A m l)(hl:∀i,l i≤255)(ht:Tbl l m)(hc:m≤c):
 Calls Tryz.prog 109 #[.pointer (some ⟨g,0,none⟩),.slice A m c] W (Rout w B g r s D L (nxt l m s D L x) Rnum Rzero):=by
 have hk:=o.kept;exact o.lift fun r1 h1 i=>rcode_c i hs (hA.go hk h1) hl ht hc
theorem Rres.same(o:Rres w B g r s D L e x W)(hb:Below W.heap.size W w'):Rres w B g r s D L e x w':=o.go (Kept.of_below hb)
theorem rlb_at{yy i:Nat}(h:yy=257+i)(hi:i≤28)(w:World):Calls Tryz.prog 100 #[.int .i64 (yy:Int)] w fun e w'=>e=.returned (.int .i64 (lb i:Nat))∧w=w':=by
 have:=rlb_yes i w hi;rw[show(257+(i:Int))=(yy:Int) by omega] at this;exact this
theorem rlof_at{yy i:Nat}(h:yy=257+i)(hi:i≤28)(e:Nat)(he:e<4294967296)(w:World):Calls Tryz.prog 110 #[.int .i64 (yy:Int),.int .u32 (e:Int)] w fun x w'=>x=.returned (.int .i64 (lof i e:Nat))∧Below w.heap.size w w':=by
 have:=rlof_yes i e w hi he;rw[show(257+(i:Int))=(yy:Int) by omega] at this;exact this
theorem lof_zero{i:Nat}(hi:i≤28):lof i 0≠0:=by
 have h1:∀i,i≤28→ls i≠0∧ll i≠0:=by decide
 obtain⟨a,b⟩:=h1 i hi;unfold lof;rw[if_pos ⟨hi,by omega⟩];omega
theorem dof_bits{i e:Nat}(hi:i≤29)(he:e<2^db i):dof i e≠0:=by
 have h1:∀i,i≤29→dl i≠0:=by decide
 have:=h1 i hi;unfold dof;rw[if_pos ⟨hi,he⟩];omega
theorem Rres.ne(o:Rres w B g r s D L e x W){r1 n cp:Nat}(hc:W.cell? ⟨g,3,none⟩=some (.slice (some ⟨r1,0,none⟩) n cp)):g≠r1:=fun q=>by
 obtain⟨_,r9,_,i9⟩:=o;obtain⟨cp9,_,_,_,k9,_⟩:=i9.cells;have h9:=i9.gr;rw[hc] at k9;injection k9 with k9
 injection k9 with k9 _ _
 injection k9 with k9
 injection k9 with k9 _ _
 exact h9 (q.trans k9)
theorem rsymbols_e(o:Rres w B g r s D L e x W)(he:e≠0)(a b:Value):Calls Tryz.prog 73 #[.pointer (some ⟨g,0,none⟩),a,b] W fun e' w'=>e'=.returned (.tuple #[])∧W=w':=by
 obtain⟨c0,c1,c2,cf⟩:=o.cells;have d0:((e:Int)==0)=false:=by rw[beq_eq_false_iff_ne];omega
 clear o c0 c1 cf;go_enter Tryz.func73,Tryz.ntmps73;go_wp2_with fail
 go_loopw [6] (fun _ wr=>wr=W) (fun _ _=>0)
 case atStart=>exact rfl
 case round=>
  obtain rfl:=hrel;go_wp2_with fail;go_end0;exact⟨rfl,rfl⟩
set_option maxHeartbeats 8000000 in
theorem rsymbols_c(h:Rin w B g r s D L 0 x)(hs:s.size≤100000)(hDL:D+L≤900000000){A1 A2:Option Addr}{c1 c2 m K:Nat}{l d:Nat→Nat}(hA:Apn w g r A1 n l)(hB:Apn w g r A2 m d)(hl:∀i,l i≤255)(hd:∀i,d i≤255)(t1:Tbl l n)(t2:Tbl d m)(hc1:n≤c1)(hc2:m≤c2)(hK:8*s.size - x.1<K):
 Calls Tryz.prog 73 #[.pointer (some ⟨g,0,none⟩),.slice A1 n c1,.slice A2 m c2] w (Rout w B g r s D L (syms K l n d m s D L x) Rnil Rnone):=by
 obtain⟨R,hR⟩:∃R,syms K l n d m s D L x=R:=⟨_,rfl⟩
 rw[hR];unfold syms at hR;have HR:=hid hR;have HS0:=hid h.start;have HC1:=hid (fun(W:World) (x:St) (o:Rres w B g r s D L 0 x W)=>o.code hs hA hl t1 hc1);have HC2:=hid (fun(W:World) (x:St) (o:Rres w B g r s D L 0 x W)=>o.code hs hB hd t2 hc2);have HBt:=hid (fun(W:World) (x:St) (o:Rres w B g r s D L 0 x W) (n:Nat) (z:Int) (hz:z=(n:Int)) (hn:n≤16)=>o.bits hs hz hn);clear h hR hA hB hl hd t1 t2 hc1 hc2;go_enter Tryz.func73,Tryz.ntmps73;go_wp2_with fail
 go_loopw [6] (fun _ wr=>(∃k x',Rres w B g r s D L 0 x' wr∧8*s.size - x'.1<k∧loopR (sym1 l n d m) k () s D L x'=R)∨(∃c y,R=.error c∧c≠0∧Rres w B g r s D L c y wr)) (fun _ wr=>rms g (8*s.size) wr)
 case atStart=>exact .inl ⟨K,x,HS0.out,hK,HR.out⟩
 case round=>
  clear HS0 HR hK;rcases hrel with⟨k,x',hS,hk,hR⟩|⟨c,y,hRc,hc0,hS⟩
  · obtain⟨k,rfl⟩:∃j,k=j+1:=⟨k - 1,by omega⟩
    have hal:=hS.al;have hms:=hS.rms_0 (8*s.size);obtain⟨e0,e1,e2,ef⟩:=hS.cells;have HS:=hid hS;have HMs:=hid hms;clear hS e0 e1 ef hms;go_wp2_with fail;refine(HC1.out _ _ HS.out).mono ?_
    intro e w1 o;cases hn:nxt l n s D L x' with
    |error c=>
     obtain rfl:R=.error c:=by rw[←hR];exact loop_no (bnd_er hn)
     rw[hn] at o;obtain⟨o1,o2,y,o3⟩:=o;unfold Rzero at o1;subst o1;obtain⟨e0,e1,e2,ef⟩:=o3.cells;have dn:((c:Int) !=0)=true:=by rw[bne_iff_ne];omega
     have O3:=hid o3;have O2:=hid o2;clear hR hn hk o3 o2 e0 e1 ef;go_wp2_with fail;go_end0;exact⟨rfl,O2.out,_,O3.out⟩
    |ok p=>
     obtain⟨yy,x1⟩:=p;rw[hn] at o;obtain⟨o1,o3⟩:=o;unfold Rnum at o1;simp only at o1 o3;subst o1;obtain⟨hy,hx1,hx1l⟩:=nxt_y hn hal;obtain⟨e0,e1,e2,ef⟩:=o3.cells;have O3:=hid o3;clear HS o3 e0 e1 ef;by_cases hy1:yy<256
     · have es:sym1 l n d m () s D L x'=if L<x1.2.length - D+1 then .error 5 else .ok (.inl (),(x1.1,x1.2++[UInt8.ofNat yy])):=by
        unfold sym1;rw[bnd_of hn,if_pos hy1];have ha:app [UInt8.ofNat yy] s D L x1=if L<x1.2.length - D+1 then .error 5 else .ok ((),(x1.1,x1.2++[UInt8.ofNat yy])):=rfl;by_cases q:L<x1.2.length - D+1
        · rw[if_pos q] at ha ⊢
          exact bnd_er ha
        · rw[if_neg q] at ha ⊢
          rw[bnd_of ha];rfl
       have f1:((yy:Int)==256)=false:=by rw[beq_eq_false_iff_ne];omega
       have f1':(yy==256)=false:=by rw[beq_eq_false_iff_ne];omega
       have f2:decide ((yy:Int)<256)=true:=decide_eq_true (by omega);have f2':decide (yy<256)=true:=decide_eq_true hy1;by_cases hlm:L<x1.2.length - D+1
       · rw[if_pos hlm] at es
         obtain rfl:R=.error 5:=by rw[←hR];exact loop_no es
         have HA:=hid (O3.out.add_no (z:=1) (k:=1) rfl (by decide) (by omega) hlm);clear hR hn hk es;go_wp2_with (go_at_call 108;(with_reducible refine HA.out.mono ?_);rintro e w2 ⟨rfl,o4⟩;have O4:=hid o4;clear o4);go_roundw
         case rel=>exact .inr ⟨5,_,rfl,by decide,O4.out⟩
         case measure=>rw[O4.out.rms_e (by decide),HMs.out];omega
       · rw[if_neg hlm] at es
         have hgo:=(loop_go (k:=k) es).symm.trans hR;have HG:=hid hgo;have hkk:8*s.size - x1.1<k:=by omega
         have hu:((UInt8.ofNat yy).toNat:Int)=(yy:Int):=by rw[UInt8.toNat_ofNat'];omega
         have hu8:IntKind.u8.wrap (yy:Int)=(yy:Int):=by rw[IntKind.wrap_u8'];omega
         have HA:=hid (O3.out.add_yes (z:=1) (k:=1) rfl (by decide) (by omega) hlm);clear hR hn es hgo hk
         go_wp2_with (first
          |(go_at_call 108;(with_reducible refine HA.out.mono ?_);rintro e w2 ⟨rfl,n4,rfl⟩
            obtain⟨r1,cp1,k3,ky⟩:=O3.out.out;have hgl:=O3.out.glt;have hgr:=O3.out.ne k3;have hl1:=O3.out.ll;have hl2:=O3.out.dl;obtain⟨N9,hN9⟩:∃N9,x1.2.length=N9:=⟨_,rfl⟩
            rw[hN9] at k3 hl1 hl2;have HN9:=hid hN9;have KY:=hid ky;have K3:=hid k3;obtain⟨_,_,_,df⟩:=O3.out.cells;have d33:=df 3;clear ky df hN9)
          |(at_builtin;refine wpList_ay1 rfl (.tmp 38) (.tmp 41) rfl r1 N9 cp1 x1.2 rfl (ry_allocN KY.out _) HN9.out ⟨w1.heap.size,0,none⟩ 1 (UInt8.ofNat yy) rfl (by rw[hu];exact new_cell1 _) (by omega) ?_
            intro g' cp' w6 r2 gr6 o6;have HL6:=hid (O3.out.app (w2:=w6) (((Kept.refl NoB w1).drewN n4).alloc _) (by rw[HN9.out];exact K3.out) r2 gr6 o6 (n:=N9+1) (by rw[List.length_append,HN9.out];rfl) (by rw[HN9.out];show N9 - D+1≤L;rw[HN9.out] at hlm;omega));have w6b:=(gr6.block g (new_size _ hgl) (by intro e;injection e with e;exact hgr e));have w6e:=w6b.trans (drewN_block _ hgl);have w6f:=(World.frozen?_of_block (a:=⟨g,3,none⟩) w6e).trans d33;have w6k:=(World.cell?_of_block (a:=⟨g,3,none⟩) w6e).trans k3;clear w6b w6e r2 gr6 o6))
         go_roundw
         case rel=>exact .inl ⟨k,_,HL6.out,hkk,HG.out⟩
         case measure=>rw[HL6.out.rms_0,HMs.out];simp only;omega
     · have f2:decide ((yy:Int)<256)=false:=decide_eq_false (by omega)
       have f2':decide (yy<256)=false:=decide_eq_false hy1;by_cases hy2:yy=256
       · have es:sym1 l n d m () s D L x'=.ok (.inr (),x1):=by
          unfold sym1;rw[bnd_of hn,if_neg hy1,if_pos hy2];rfl
         obtain rfl:R=.ok ((),x1):=by rw[←hR];exact loop_end es
         have f1:((yy:Int)==256)=true:=by rw[beq_iff_eq];omega
         have f1':(yy==256)=true:=by rw[beq_iff_eq];exact hy2
         clear hR hn hk es hy2;go_wp2_with fail;go_end0;exact⟨rfl,O3.out⟩
       · have f1:((yy:Int)==256)=false:=by rw[beq_eq_false_iff_ne];omega
         have f1':(yy==256)=false:=by rw[beq_eq_false_iff_ne];exact hy2
         have es:sym1 l n d m () s D L x'=matR yy d m s D L x1:=by
          unfold sym1;rw[bnd_of hn,if_neg hy1,if_neg hy2]
         unfold matR at es;clear hn;by_cases hy3:285<yy
         · have hlen:lenR yy s D L x1=.error 163:=by
            unfold lenR;rw[if_neg (by omega:¬yy≤285),bnd_of (show I.bits 0 s D L x1=.ok (M.nb s x1.1 0,(x1.1+0,x1.2)) from if_pos (by omega)),if_pos (.inl hy3)];rfl
           rw[bnd_er hlen] at es;obtain rfl:R=.error 163:=by rw[←hR];exact loop_no es
           have f3:decide (285<(yy:Int))=true:=decide_eq_true (by omega);have f3':decide (285<yy)=true:=decide_eq_true hy3;have HF:=hid (O3.out.fail (z:=163) 163 rfl);clear hR hk es hlen;go_wp2_with (go_at_call 76;(with_reducible refine HF.out.mono ?_);rintro e w2 ⟨rfl,o4⟩;have O4:=hid o4;clear o4);go_end0;exact⟨rfl,by decide,_,O4.out⟩
         · obtain⟨i,hi⟩:∃i,yy=257+i:=⟨yy - 257,by omega⟩
           have hi28:i≤28:=by omega
           have hlb:=lb_le i hi28
           have hlen:lenR yy s D L x1=bnd (I.bits (lb i)) (fun e=>if lof i e=0 then fl 163 else pur (lof i e)) s D L x1:=by
            unfold lenR;rw[if_pos (by omega:yy≤285),show yy - 257=i by omega];congr 1;funext e;by_cases q:lof i e=0
            · rw[if_pos (.inr q),if_pos q]
            · rw[if_neg (by omega),if_neg q]
           have f3:decide (285<(yy:Int))=false:=decide_eq_false (by omega);have f3':decide (285<yy)=false:=decide_eq_false hy3;have HLb:=hid (fun w=>rlb_at hi hi28 w);have HLo:=hid (fun e he w=>rlof_at hi hi28 e he w);obtain⟨B1,hB1⟩:∃B1,lb i=B1:=⟨_,rfl⟩
           rw[hB1] at hlb hlen HLb;clear hi;go_wp2_with (go_at_call 100;(with_reducible refine(HLb.out _).mono ?_);rintro e w2 ⟨rfl,rfl⟩);refine(HBt.out _ _ O3.out B1 _ rfl (by omega)).mono ?_
           intro e w2 o;cases hb:I.bits B1 s D L x1 with
           |error c=>
            rw[bnd_er (show lenR yy s D L x1=.error c from by rw[hlen];exact bnd_er hb)] at es;obtain rfl:R=.error c:=by rw[←hR];exact loop_no es
            rw[hb] at o;obtain⟨o1,o2,y,o3⟩:=o;unfold Rzero at o1;subst o1;have hv0:=lof_zero hi28;have hL0:=fun w=>HLo.out 0 (by decide) w
            obtain⟨v0,hv⟩:∃v0,lof i 0=v0:=⟨_,rfl⟩
            rw[hv] at hv0;simp only[hv] at hL0;have HL0:=hid (fun w=>show Calls Tryz.prog 110 #[.int .i64 (yy:Int),.int .u32 0] w fun x w'=>x=.returned (.int .i64 (v0:Int))∧Below w.heap.size w w' from hL0 w);have dv:((v0:Int)==0)=false:=by rw[beq_eq_false_iff_ne];omega
            have dn:((c:Int) !=0)=true:=by rw[bne_iff_ne];omega
            have O3:=hid o3;have O2:=hid o2;clear hR hk es hlen hb o3 o2 hL0 hv e2;go_wp2_with (go_at_call 110;(with_reducible refine(HL0.out _).mono ?_);rintro e w3 ⟨rfl,b3⟩;have o4:=O3.out.same b3;obtain⟨d0,d1,d2,df⟩:=o4.cells;have O4:=hid o4;clear b3 o4 d0 d1 df);go_end0;exact⟨rfl,O2.out,_,O4.out⟩
           |ok p=>
            obtain⟨e1,x2⟩:=p;rw[hb] at o;obtain⟨o1,o3⟩:=o;unfold Rnum at o1;simp only at o1 o3;subst o1;obtain⟨he1,hx2⟩:=bits_lt hb 65536 (Nat.pow_le_pow_right (by decide) (by omega):2^B1≤2^16);have hx2l:x1.1≤x2.1:=by rw[hx2];simp only;omega
            have hx2a:=(Nice.bits B1).inn hb hx1l;have hlv:=lof_le i e1;have hL1:=fun w=>HLo.out e1 (by omega) w
            obtain⟨v,hv⟩:∃v,lof i e1=v:=⟨_,rfl⟩
            rw[hv] at hlv;simp only[hv] at hL1;have HL1:=hid hL1;have u1:IntKind.u32.wrap (e1:Int)=(e1:Int):=by rw[IntKind.wrap_u32'];omega
            have O3:=hid o3;have hlr:lenR yy s D L x1=(if v=0 then fl 163 else pur v:Rm Nat) s D L x2:=by rw[hlen,bnd_of hb,hv]
            clear hlen hb hv hL1 e2 HLo HLb;by_cases hv0:v=0
            · rw[if_pos hv0] at hlr
              rw[bnd_er (show lenR yy s D L x1=.error 163 from hlr)] at es;obtain rfl:R=.error 163:=by rw[←hR];exact loop_no es
              have dv:((v:Int)==0)=true:=by rw[beq_iff_eq];omega
              have dn:((163:Int) !=0)=true:=by decide
              clear hR hk es hlr hv0
              go_wp2_with (first
               |(go_at_call 110;(with_reducible refine(HL1.out _).mono ?_);rintro e w3 ⟨rfl,b3⟩;have o4:=O3.out.same b3;have HF:=hid (o4.fail (z:=163) 163 rfl);clear b3 o4)
               |(go_at_call 76;(with_reducible refine HF.out.mono ?_);rintro e w4 ⟨rfl,o5⟩;obtain⟨d0,d1,d2,df⟩:=o5.cells;have O5:=hid o5;clear o5 d0 d1 df))
              go_end0;exact⟨rfl,by decide,_,O5.out⟩
            · rw[if_neg hv0] at hlr
              rw[bnd_of (show lenR yy s D L x1=.ok (v,x2) from hlr)] at es;have dv:((v:Int)==0)=false:=by rw[beq_eq_false_iff_ne];omega
              clear hlr hv0;go_wp2_with (go_at_call 110;(with_reducible refine(HL1.out _).mono ?_);rintro e w3 ⟨rfl,b3⟩;have o4:=O3.out.same b3;obtain⟨d0,d1,d2,df⟩:=o4.cells;have O4:=hid o4;clear b3 o4 d0 d1 df);refine(HC2.out _ _ O4.out).mono ?_
              intro e w4 o;cases hz:nxt d m s D L x2 with
              |error c=>
               rw[bnd_er hz] at es;obtain rfl:R=.error c:=by rw[←hR];exact loop_no es
               rw[hz] at o;obtain⟨o1,o2,y,o3⟩:=o;unfold Rzero at o1;subst o1;obtain⟨d0,d1,d2',df⟩:=o3.cells;have dn:((c:Int) !=0)=true:=by rw[bne_iff_ne];omega
               have de:((c:Int)==0)=false:=by rw[beq_eq_false_iff_ne];omega
               have O5:=hid o3;have O2:=hid o2;clear hR hk es hz o3 o2 d0 d1 df;go_wp2_with fail;go_end0;exact⟨rfl,O2.out,_,O5.out⟩
              |ok p=>
               obtain⟨zz,x3⟩:=p;rw[bnd_of hz] at es;rw[hz] at o;obtain⟨o1,o3⟩:=o;unfold Rnum at o1;simp only at o1 o3;subst o1;obtain⟨hzy,hx3,hx3l⟩:=nxt_y hz hx2a;obtain⟨d0,d1,d2',df⟩:=o3.cells;have O5:=hid o3;clear hz o3 d0 d1 df;by_cases hz3:29<zz
               · have hdst:dstR zz s D L x3=.error 163:=by
                  unfold dstR;rw[if_neg (by omega:¬zz≤29),bnd_of (show I.bits 0 s D L x3=.ok (M.nb s x3.1 0,(x3.1+0,x3.2)) from if_pos (by omega)),if_pos (.inl hz3)];rfl
                 rw[bnd_er hdst] at es;obtain rfl:R=.error 163:=by rw[←hR];exact loop_no es
                 have g3:decide (29<(zz:Int))=true:=decide_eq_true (by omega);have g3':decide (29<zz)=true:=decide_eq_true hz3;have dn:((163:Int) !=0)=true:=by decide
                 have HF:=hid (O5.out.fail (z:=163) 163 rfl);clear hR hk es hdst;go_wp2_with (go_at_call 76;(with_reducible refine HF.out.mono ?_);rintro e w5 ⟨rfl,o6⟩;obtain⟨d0,d1,d2'',df⟩:=o6.cells;have O6:=hid o6;clear o6 d0 d1 df);go_end0;exact⟨rfl,by decide,_,O6.out⟩
               · have hz29:zz≤29:=by omega
                 have hdb:=db_le zz hz29
                 have hdst:dstR zz s D L x3=bnd (I.bits (db zz)) (fun e=>if dof zz e=0 then fl 163 else pur (dof zz e)) s D L x3:=by
                  unfold dstR;rw[if_pos hz29];congr 1;funext e;by_cases q:dof zz e=0
                  · rw[if_pos (.inr q),if_pos q]
                  · rw[if_neg (by omega),if_neg q]
                 have g3:decide (29<(zz:Int))=false:=decide_eq_false (by omega);have g3':decide (29<zz)=false:=decide_eq_false hz3;have HDb:=hid (fun w=>rdb_yes zz w hz29);have HDo:=hid (fun e he w=>rdof_yes zz e w hz29 he);have HDn:=hid (fun e (he:e<2^db zz)=>dof_bits hz29 he);obtain⟨B2,hB2⟩:∃B2,db zz=B2:=⟨_,rfl⟩
                 rw[hB2] at hdb hdst HDb HDn;go_wp2_with (go_at_call 101;(with_reducible refine(HDb.out _).mono ?_);rintro e w5 ⟨rfl,rfl⟩);refine(HBt.out _ _ O5.out B2 _ rfl (by omega)).mono ?_
                 intro e w5 o;cases hb:I.bits B2 s D L x3 with
                 |error c=>
                  rw[bnd_er (show dstR zz s D L x3=.error c from by rw[hdst];exact bnd_er hb)] at es;obtain rfl:R=.error c:=by rw[←hR];exact loop_no es
                  rw[hb] at o;obtain⟨o1,o2,y,o3⟩:=o;unfold Rzero at o1;subst o1;have hL0:=fun w=>HDo.out 0 (by decide) w
                  obtain⟨t0,ht⟩:∃t0,dof zz 0=t0:=⟨_,rfl⟩
                  simp only[ht] at hL0;have HL0:=hid (fun w=>show Calls Tryz.prog 111 #[.int .i64 (zz:Int),.int .u32 0] w fun x w'=>x=.returned (.int .i64 (t0:Int))∧Below w.heap.size w w' from hL0 w);have dn:((c:Int) !=0)=true:=by rw[bne_iff_ne];omega
                  have de:((c:Int)==0)=false:=by rw[beq_eq_false_iff_ne];omega
                  have O6:=hid o3;have O2:=hid o2;clear hR hk es hdst hb o3 o2 hL0 ht
                  go_wp2_with (first
                   |(go_at_call 111;(with_reducible refine(HL0.out _).mono ?_);rintro e w6 ⟨rfl,b6⟩;have o4:=O6.out.same b6;obtain⟨d0,d1,d2'',df⟩:=o4.cells;have HAd:=hid (o4.add_e O2.out v rfl);have O7:=hid o4;clear b6 o4 d0 d1 df)
                   |(go_at_call 108;(with_reducible refine HAd.out.mono ?_);rintro e w7 ⟨rfl,rfl⟩))
                  go_end0;exact⟨rfl,O2.out,_,O7.out⟩
                 |ok p=>
                  obtain⟨e3,x4⟩:=p;rw[hb] at o;obtain⟨o1,o3⟩:=o;unfold Rnum at o1;simp only at o1 o3;subst o1;obtain⟨he3,hx4⟩:=bits_lt hb 65536 (Nat.pow_le_pow_right (by decide) (by omega):2^B2≤2^16);have hx4l:x3.1≤x4.1:=by rw[hx4];simp only;omega
                  have hx4a:=(Nice.bits B2).inn hb hx3l;have hdn:=HDn.out e3 (bits_lt hb _ (Nat.le_refl _)).1;have hdl:=dof_le zz e3;have hL1:=fun w=>HDo.out e3 (by omega) w
                  obtain⟨t,ht⟩:∃t,dof zz e3=t:=⟨_,rfl⟩
                  rw[ht] at hdn hdl;simp only[ht] at hL1;have HL1:=hid hL1;have u2:IntKind.u32.wrap (e3:Int)=(e3:Int):=by rw[IntKind.wrap_u32'];omega
                  have hdr:dstR zz s D L x3=.ok (t,x4):=by rw[hdst,bnd_of hb,ht,if_neg hdn];rfl
                  rw[bnd_of hdr] at es;obtain⟨d0,d1,d2'',df⟩:=o3.cells;have O6:=hid o3;clear hdr hdst hb ht hL1 o3 d0 d1 df HDb HDo HDn;obtain⟨r1,cp1,k3,ky⟩:=O6.out.out;have hl1:=O6.out.ll;have hl2:=O6.out.dl;obtain⟨M4,hM4⟩:∃M4,x4.2.length=M4:=⟨_,rfl⟩
                  rw[hM4] at k3 hl1 hl2;by_cases hfar:M4<t
                  · have hcp:copy t v s D L x4=.error 164:=by unfold copy;rw[hM4,if_pos hfar]
                    rw[bnd_er hcp] at es;obtain rfl:R=.error 164:=by rw[←hR];exact loop_no es
                    have g4:decide ((M4:Int)<(t:Int))=true:=decide_eq_true (by omega);have g4':decide (M4<t)=true:=decide_eq_true hfar;have k39:=fun(W:World) (b:Below w5.heap.size w5 W)=>(b.cell (O6.out.glt)).trans k3
                    have K39:=hid k39;clear hR hk es hcp hfar ky k39 k3
                    go_wp2_with (first
                     |(go_at_call 111;(with_reducible refine(HL1.out _).mono ?_);rintro e w6 ⟨rfl,b6⟩;have o4:=O6.out.same b6;obtain⟨d0,d1,d2'',df⟩:=o4.cells;have k3:=K39.out _ b6;have HF:=hid (o4.fail (z:=164) 164 rfl);clear b6 o4 d0 d1 df)
                     |(go_at_call 76;(with_reducible refine HF.out.mono ?_);rintro e w7 ⟨rfl,o8⟩;have HAd:=hid (o8.add_e (by decide) v rfl);have O8:=hid o8;clear o8)
                     |(go_at_call 108;(with_reducible refine HAd.out.mono ?_);rintro e w8 ⟨rfl,rfl⟩))
                    go_end0;exact⟨rfl,by decide,_,O8.out⟩
                  · have g4:decide ((M4:Int)<(t:Int))=false:=decide_eq_false (by omega)
                    have g4':decide (M4<t)=false:=decide_eq_false hfar;have k39:=fun(W:World) (b:Below w5.heap.size w5 W)=>(b.cell (O6.out.glt)).trans k3
                    have K39:=hid k39;by_cases hlm:L<M4 - D+v
                    · have hcp:copy t v s D L x4=.error 5:=by unfold copy;rw[hM4,if_neg hfar,if_pos hlm]
                      rw[bnd_er hcp] at es;obtain rfl:R=.error 5:=by rw[←hR];exact loop_no es
                      have HAd:=hid (fun(W:World) (o:Rres w B g r s D L 0 x4 W)=>o.add_no (k:=v) rfl (by omega) (by omega) (by rw[hM4];exact hlm));clear hR hk es hcp hfar ky k39 k3
                      go_wp2_with (first
                       |(go_at_call 111;(with_reducible refine(HL1.out _).mono ?_);rintro e w6 ⟨rfl,b6⟩;have o4:=O6.out.same b6;obtain⟨d0,d1,d2'',df⟩:=o4.cells;have k3:=K39.out _ b6;have O7:=hid o4;clear b6 o4 d0 d1 df)
                       |(go_at_call 108;(with_reducible refine(HAd.out _ O7.out).mono ?_);rintro e w8 ⟨rfl,o8⟩;have O8:=hid o8;clear o8))
                      go_end0;exact⟨rfl,by decide,_,O8.out⟩
                    · have hcp:copy t v s D L x4=.ok ((),(x4.1,gr x4.2 t v)):=by unfold copy;rw[hM4,if_neg hfar,if_neg hlm]
                      rw[bnd_of hcp] at es;have hgo:=(loop_go (k:=k) es).symm.trans hR;have HG:=hid hgo;have HAd:=hid (fun(W:World) (o:Rres w B g r s D L 0 x4 W)=>o.add_yes (k:=v) rfl (by omega) (by omega) (by rw[hM4];exact hlm));have hkk:8*s.size - x4.1<k:=by omega
                      have HM4:=hid hM4;clear hR hk es hcp hgo ky k39 k3 hM4
                      go_wp2_with (first
                       |(go_at_call 111;(with_reducible refine(HL1.out _).mono ?_);rintro e w6 ⟨rfl,b6⟩;have o4:=O6.out.same b6;obtain⟨d0,d1,d2'',df⟩:=o4.cells;have k3:=K39.out _ b6;have O7:=hid o4;clear b6 o4 d0 d1 df)
                       |(go_at_call 108;(with_reducible refine(HAd.out _ O7.out).mono ?_);rintro e w8 ⟨rfl,n8,rfl⟩))
                      have HO8:=hid (O7.out.go ((Kept.refl NoB w6).drewN n8));clear k3 d2''
                      go_loopw [12] (fun i wr=> ∃j:Nat,j≤v∧i=.int .i64 j∧Rres w B g r s D L 0 (x4.1,gr x4.2 t j) wr) (fun i _=>v - (intOf i).toNat)
                      case atStart=>exact⟨0,Nat.zero_le _,rfl,HO8.out⟩
                      case round=>
                       obtain⟨j,hj,rfl,ho⟩:=hrel;have hgl:=gr_length x4.2 t j;rw[HM4.out] at hgl;obtain⟨MM,hMM⟩:∃MM,M4+j=MM:=⟨_,rfl⟩
                       rw[hMM] at hgl;by_cases hlt:j<v
                       · obtain⟨r1,cp1,k3,ky⟩:=ho.out
                         simp only at k3 ky;have hg9:=ho.glt;have hgr:=ho.ne k3;obtain⟨_,_,_,df⟩:=ho.cells;have d33:=df 3;obtain⟨u,hu⟩:∃u,MM - t=u:=⟨_,rfl⟩
                         have hM8:MM≤900000258:=by omega
                         have y1:IntKind.i64.wrap ((MM:Int) - (t:Int))=(u:Int):=by rw[IntWalk.i64_in _ ⟨by omega,by omega⟩];omega
                         have y2:IntKind.i64.wrap (u:Int)=(u:Int):=by rw[IntWalk.i64_in _ ⟨by omega,by omega⟩]
                         have hu2:u<MM:=by omega
                         have hgx:(gr x4.2 t j)[u]? =some ((gr x4.2 t j).getD u 0):=by rw[List.getD,List.getElem?_eq_getElem (by omega)];rfl
                         have hstep:gr x4.2 t (j+1)=gr x4.2 t j++[(gr x4.2 t j).getD u 0]:=by
                          show gr x4.2 t j++[(gr x4.2 t j).getD ((gr x4.2 t j).length - t) 0]=_
                          rw[hgl,hu]
                         have wx:=ky.byte u _ hgx;obtain⟨bv,hb⟩:∃bv,(gr x4.2 t j).getD u 0=bv:=⟨_,rfl⟩
                         rw[hb] at wx hstep;have k3':=k3;rw[hgl] at k3;have HI2:=hid ho;have HK3:=hid k3';have HY:=hid ky;have HGl:=hid hgl;have HST:=hid hstep;have hLm:MM - D+1≤L:=by omega
                         have wab:∀o:Obj,(wr.alloc o).cell? ⟨g,3,none⟩=some (.slice (some ⟨r1,0,none⟩) MM cp1):=fun o=>(World.cell?_of_block (a:=⟨g,3,none⟩) (Below.heap_alloc _ _ _ hg9)).trans k3
                         clear ho hgl hstep hb hgx hMM hu ky df k3' hfar hlm g4 g4' dv f1 f1' f2 f2' f3 f3' g3 g3';go_wp2_with fail
                         go_region_law (refine step_ay1 rfl (.tmp 122) (.tmp 136) rfl r1 MM cp1 (gr x4.2 t j) rfl (ry_alloc HY.out _) HGl.out ⟨wr.heap.size,0,none⟩ 1 bv rfl (by simp) (by omega) ?_
                                        intro g' cp' w9 r2 gr9 o9;have HL9:=hid (HI2.out.app (w2:=w9) (((Kept.refl NoB wr).drew).alloc _) HK3.out r2 gr9 o9 (n:=MM+1) (by rw[List.length_append,HGl.out];rfl) (by rw[HGl.out];exact hLm));have w9b:=(gr9.block g (by simp;omega) (by intro e;injection e with e;exact hgr e));have w9e:=w9b.trans (Below.heap_alloc _ _ _ hg9);have w9f:=(World.frozen?_of_block (a:=⟨g,3,none⟩) w9e).trans d33;have w9k:=(World.cell?_of_block (a:=⟨g,3,none⟩) w9e).trans k3;clear w9b w9e r2 gr9 o9)
                         all_goals
                          clear wab wx;have HL10:=hid HL9.out;clear HL9;rw[←HST.out] at HL10;go_wp2_with fail;go_roundw
                          case rel=>exact⟨j+1,by omega,by go_num,HL10.out⟩
                          case measure=>simp[intOf];omega
                       · obtain rfl:j=v:=by omega
                         have HO9:=hid ho;clear ho hgl hMM;go_wp2_with fail;go_roundw
                         case rel=>exact .inl ⟨k,_,HO9.out,hkk,HG.out⟩
                         case measure=>rw[HO9.out.rms_0,HMs.out];simp only;omega
  · obtain⟨e0,e1,e2,ef⟩:=hS.cells
    have d0:((c:Int)==0)=false:=by rw[beq_eq_false_iff_ne];omega
    have HS:=hid hS;clear hS e0 e1 ef;go_wp2_with fail;go_end0;rw[hRc];exact⟨rfl,hc0,_,HS.out⟩
end
end Go.Proofs.YtdpabanajgegjaaGreatDoor.I
namespace Go.Proofs.YtdpabanajgegjaaGreatDoor.I
open Go Go.RowKit M
theorem bnd_assoc{α β γ:Type}(r:Rm α)(f:α→Rm β)(g:β→Rm γ):bnd (bnd r f) g=bnd r fun a=>bnd (f a) g:=by
 funext s D L x;unfold bnd;cases r s D L x<;>rfl
def lens4(a b:Nat)(all:List Nat):Rm (List Nat×Nat×Nat):=if all.getD 256 0=0 then fl 162 else pur (all,a+257,b+1)
def lens3(K a b:Nat)(o:Nat→Nat):Rm (List Nat×Nat×Nat):=if kind o 19≠2 then fl 162 else bnd (loopR (len1 o (a+257+(b+1))) K []) fun all=>lens4 a b all
def lens2(K a b k:Nat):Rm (List Nat×Nat×Nat):=if 286<a+257∨30<b+1 then fl 162 else bnd (ownR (k+4) 0 fun _=>0) fun o=>lens3 K a b o
def lensR(K:Nat):Rm (List Nat×Nat×Nat):=bnd (bits 5) fun a=>bnd (bits 5) fun b=>bnd (bits 4) fun k=>lens2 K a b k
def tabs(t:List Nat×Nat×Nat):Rm (List Nat×Nat×Nat):=if ¬Tbl (lit t.1) t.2.1∨¬Tbl (dis t.1 t.2.1) t.2.2 then fl 162 else pur t
theorem dyn_lens(K:Nat):dyn K=bnd (lensR K) tabs:=by
 unfold dyn lensR;rw[bnd_assoc];congr 1;funext a;rw[bnd_assoc];congr 1;funext b;rw[bnd_assoc];congr 1;funext k;unfold lens2;by_cases q:286<a+257∨30<b+1
 · rw[if_pos q,if_pos q];rfl
 · rw[if_neg q,if_neg q,bnd_assoc];congr 1;funext o
   unfold lens3;by_cases q2:kind o 19≠2
   · rw[if_pos q2,if_pos q2];rfl
   · rw[if_neg q2,if_neg q2,bnd_assoc];congr 1;funext all
     unfold lens4 tabR;by_cases q3:all.getD 256 0=0
     · rw[if_pos (.inl q3),if_pos q3];rfl
     · rw[if_neg q3]
       show _=tabs (all,a+257,b+1)
       unfold tabs;by_cases q4:¬Tbl (lit all) (a+257)∨¬Tbl (dis all (a+257)) (b+1)
       · rw[if_pos (.inr q4),if_pos q4]
       · rw[if_neg q4,if_neg (fun h=>h.elim q3 q4)]
theorem ord_od:V.ord=od:=rfl
theorem lastD_at:∀ (l:List Nat),l.getLastD 0=l.getD (l.length - 1) 0:=fun l=>by
 rw[List.getD,←List.getLast?_eq_getElem?,List.getLastD_eq_getLast?]
section
variable {w W w' w1 w2:World} {B g r D L e n v ob:Nat} {s:ByteArray} {x y x1:St} {z:Int}
theorem Rin.set_off(h:Rin w B g r s D L e x){b i:Nat}{u:Value}(hg:b≠g)(hr:b≠r):Rin (w.setCell ⟨b,i,none⟩ u) B g r s D L e x:=by
 obtain⟨cp,h1,h2⟩:=h.row;have e1:(w.setCell ⟨b,i,none⟩ u).heap[g]? =w.heap[g]? :=Below.heap_setCell _ _ _ _ hg.symm;exact⟨h.gb,h.rb,⟨cp,e1.trans h1,h2.other (x:=⟨b,i,none⟩) hr.symm u⟩,h.dl,h.ll,h.al⟩
theorem kept_from(hb:Below B w w'):Kept (fun j=>B≤j) w w':=⟨hb.os,hb.tape,hb.output,hb.size,fun k _ hk=>hb.block k (by omega)⟩
theorem Rin.low{B1:Nat}(h:Rin w B g r s D L e x)(hb:Below B1 w w')(hg:g<B1)(hr:r<B1):Rin w' B g r s D L e x:=by
 obtain⟨cp,h1,h2⟩:=h.row;exact⟨h.gb,h.rb,⟨cp,(hb.block g hg).trans h1,h2.of_block (hb.block r hr)⟩,h.dl,h.ll,h.al⟩
theorem kg_low{B1:Nat}{S:Nat→Prop}(h:Kept S w w1)(hb:Below B1 w1 w2)(hB:w.heap.size≤B1):Kept S w w2:=h.trans (kept_from hb) fun j hj=> .inr (Nat.le_trans hB hj)
theorem kgg(h:Kept (fun j=>j=g) w w1)(k:Kept (fun j=>j=g) w1 w2):Kept (fun j=>j=g) w w2:=h.trans k fun j e=> .inl e
theorem br_go{f:Nat→Nat}(h:Br w ob n f)(hk:Kept (fun j=>j=g) w w')(hne:ob≠g):Br w' ob n f:=h.at' (hk.block ob h.lt hne)
theorem owb_go{B1:Nat}{u:Value}{l:List Nat}(h:U.Owb B1 w u l)(hk:Kept (fun j=>j=g) w w')(hg:g<B1):U.Owb B1 w' u l:=h.at fun b hb=>hk.block b (h.lt b hb).2 (fun e=>by have:=(h.lt b hb).1;omega)
def Rb(W:World)(B g r:Nat)(s:ByteArray)(D L n e:Nat)(x:St)(en:Ending)(w':World):Prop:=∃ (v ec:Nat) (y:St),en=.returned (.int .i64 (v:Int))∧v<2^n∧Rin w' B g r s D L ec y∧Kept (fun j=>j=g) W w'∧((ec=0∧e=0∧bits n s D L x=.ok (v,y))∨(ec≠0∧(e=0→bits n s D L x=.error ec)∧(e≠0→ec=e)))
theorem rbits_w(h:Rin W B g r s D L e x)(hs:s.size≤100000)(hz:z=(n:Int))(hn:n≤16):Calls Tryz.prog 71 #[.pointer (some ⟨g,0,none⟩),.int .i64 z] W (Rb W B g r s D L n e x):=by
 subst hz;by_cases he:e=0
 · subst he
   refine(rbits_s h hs n hn).mono fun en w' o=> ?_
   cases hb:bits n s D L x with
   |ok p=>
    rw[hb] at o;obtain⟨o1,o2,o3⟩:=o
    have hv:p.1<2^n:=by
     unfold bits at hb
     split at hb
     · cases hb;exact M.nb_lt _ _ _
     · cases hb
    exact⟨p.1,0,p.2,o1,hv,o2,o3,.inl ⟨rfl,rfl,hb⟩⟩
   |error c=>
    rw[hb] at o;obtain⟨o1,o2,y,o3,o4⟩:=o;exact⟨0,c,y,o1,Nat.two_pow_pos n,o3,o4,.inr ⟨o2,fun _=>hb,fun h=>absurd rfl h⟩⟩
 · exact(rbits_e h he n (by omega)).mono fun en w' o=>⟨0,e,x,o.1,Nat.two_pow_pos n,h.same o.2,o.2.none _,.inr ⟨he,fun q=>absurd q he,fun _=>rfl⟩⟩
end
theorem owb_at{B1:Nat}{w:World}{u:Value}{l:List Nat}(h:U.Owb B1 w u l):(u=.slice none 0 0∧l=[])∨∃b c,u=.slice (some ⟨b,0,none⟩) l.length c∧B1≤b∧b<w.heap.size∧l.length≤c∧∀i,i<l.length→w.cell? ⟨b,i,none⟩=some (.int .u8 ((l.getD i 0:Nat):Int)):=by
 rcases h.2 with⟨e,h0⟩|⟨b,cap,cur,e,hb,hh,hnc,_⟩
 · exact .inl ⟨e,List.eq_nil_of_length_eq_zero h0⟩
 · subst e
   refine .inr ⟨b,cap,rfl,hb,(Array.getElem?_eq_some_iff.1 hh).1,hnc,fun i hi=> ?_⟩;have k:=h.cells (g:=b) rfl i (.int .u8 ((l.getD i 0:Nat):Int)) (by unfold U.clb;rw[List.getElem?_map,List.getElem?_eq_getElem hi,List.getD,List.getElem?_eq_getElem hi];rfl);rw[U.nadd_at,Nat.zero_add] at k;exact k
def Lns(W:World)(B g r:Nat)(s:ByteArray)(D L:Nat)(res:Except Nat ((List Nat×Nat×Nat)×St))(en:Ending)(w':World):Prop:=
 match res with
 |.ok p=> ∃A1 c1 A2 c2,en=.returned (.tuple #[.slice A1 p.1.2.1 c1,.slice A2 p.1.2.2 c2])∧p.1.2.1≤c1∧p.1.2.2≤c2∧Apn w' g r A1 p.1.2.1 (lit p.1.1)∧Apn w' g r A2 p.1.2.2 (dis p.1.1 p.1.2.1)∧(∀u∈p.1.1,u≤255)∧Rin w' B g r s D L 0 p.2∧Kept (fun j=>j=g) W w'
 |.error c=>en=.returned (.tuple #[.slice none 0 0,.slice none 0 0])∧c≠0∧∃y,Rin w' B g r s D L c y∧Kept (fun j=>j=g) W w'
end Go.Proofs.YtdpabanajgegjaaGreatDoor.I
namespace Go.Proofs.YtdpabanajgegjaaGreatDoor.I
open Go.Lib (hid)
open Go Go.RowKit M
section
variable {w:World} {B g r D L:Nat} {s:ByteArray} {x:St}
set_option maxHeartbeats 8000000 in
theorem rlens_c(h:Rin w B g r s D L 0 x)(hs:s.size≤100000)(K:Nat)(hK:8*s.size - x.1<K):
 Calls Tryz.prog 74 #[.pointer (some ⟨g,0,none⟩)] w (Lns w B g r s D L (lensR K s D L x)):=by
 obtain⟨R,hR⟩:∃R,lensR K s D L x=R:=⟨_,rfl⟩
 rw[hR];unfold lensR at hR;have hmk:∀w,(Instr.makeSlice 23 (.int .i64 19) (.int .i64 19)).run Tryz.prog w=.ok (.slice (some ⟨w.heap.size,0,none⟩) 19 19) (w.alloc (.cells (madeCells #[.int .u8 0] 19) 5)):=fun w=>C.madeByte w 19 (by omega)
 have HI:=hid h;clear h;go_enter Tryz.func74,Tryz.ntmps74;go_wp2_with fail;refine(rbits_w HI.out hs (z:=5) (n:=5) rfl (by decide)).mono ?_
 rintro en w1 ⟨a,e1,x1,rfl,ha,i1,k1,q1⟩;have ha2:a<32:=ha;have I1:=hid i1;have K1:=hid k1;have Q1:=hid q1;clear i1 k1 q1 ha;go_wp2_with fail;refine(rbits_w I1.out hs (z:=5) (n:=5) rfl (by decide)).mono ?_
 rintro en w2 ⟨b,e2,x2,rfl,hb,i2,k2,q2⟩;have hb2:b<32:=hb;have I2:=hid i2;have K2:=hid (kgg K1.out k2);have Q2:=hid q2;clear i2 k2 q2 hb;go_wp2_with fail;refine(rbits_w I2.out hs (z:=4) (n:=4) rfl (by decide)).mono ?_
 rintro en w3 ⟨k,e3,x3,rfl,hk,i3,k3,q3⟩;have hk2:k<16:=hk
 have hst:(e3=0∧lens2 K a b k s D L x3=R∧x.1≤x3.1)∨(e3≠0∧R=.error e3):=by
  rcases Q1.out with⟨rfl,_,q1⟩|⟨n1,q1,_⟩
  · rw[bnd_of q1] at hR
    rcases Q2.out with⟨rfl,_,q2⟩|⟨n2,q2,_⟩
    · rw[bnd_of q2] at hR
      rcases q3 with⟨rfl,_,q3⟩|⟨n3,q3,_⟩
      · rw[bnd_of q3] at hR
        have m1:=((Nice.bits 5).mono q1).1;have m2:=((Nice.bits 5).mono q2).1;have m3:=((Nice.bits 4).mono q3).1;exact .inl ⟨rfl,hR,by omega⟩
      · rw[bnd_er (q3 rfl)] at hR;exact .inr ⟨n3,hR.symm⟩
    · rw[bnd_er (q2 rfl)] at hR
      rcases q3 with⟨_,q,_⟩|⟨n3,_,q3⟩
      · exact absurd q n2
      · rw[q3 n2];exact .inr ⟨n2,hR.symm⟩
  · rw[bnd_er (q1 (by first|rfl|trivial))] at hR
    have e21:e2=e1:=by
     rcases Q2.out with⟨_,q,_⟩|⟨_,_,q2⟩
     · exact absurd q n1
     · exact q2 n1
    subst e21;rcases q3 with⟨_,q,_⟩|⟨n3,_,q3⟩
    · exact absurd q n1
    · rw[q3 n1];exact .inr ⟨n1,hR.symm⟩
 have I3:=hid i3;have K3:=hid (kgg K2.out k3);obtain⟨cp3,c30,c31,c32,_⟩:=i3.cells;clear i3 k3 q3 hk hR I1 I2 K1 K2 Q1 Q2 c30 c31;have hal3:=I3.out.al;rcases hst with⟨rfl,hR,hx3⟩|⟨ne3,hR⟩
 · unfold lens2 at hR
   by_cases qa:286<a+257
   · rw[if_pos (.inl qa)] at hR
     have hRe:R=.error 162:=hR.symm;subst hRe;have d1:decide (286<(a:Int)+257)=true:=decide_eq_true (by omega);have dn:((162:Int)==0)=false:=by decide
     have dp:((162:Int) !=0)=true:=by decide
     have HF:=hid (rfail_s I3.out 162 162 rfl);have dk:decide ((0:Int)<(k:Int)+4)=true:=decide_eq_true (by omega);clear hR qa
     go_wp2_with (first
      |(go_at_call 76;(with_reducible refine HF.out.mono ?_);rintro e w7 ⟨rfl,i7,k7⟩;have I7:=hid i7;have K7:=hid (kgg K3.out k7);clear i7 k7)
      |(go_at_call 68;(with_reducible refine(V.order_any _).mono ?_);rintro e w8 ⟨rfl,o8,b8⟩
        have b9:=(Below.refl w7.heap.size w7).alloc (Nat.le_refl _) (.cells (madeCells #[.int .u8 0] 19) 5);have b10:Below w7.heap.size w7 w8:=b9.trans (b8.mono b9.size);have i8:=(I7.out).below b10;obtain⟨cp8,c80,c81,c82,_⟩:=i8.cells;have I8:=hid i8;have K8:=hid ((K7.out).trans (Kept.of_below b10) (fun _ e=>e.elim));clear o8 b8 b9 b10 i8 c80 c81))
     clear hmk
     go_loopw [9] (fun i wx=>i=.int .i64 0∧wx=w8) (fun _ _=>0)
     case atStart=>exact⟨rfl,rfl⟩
     case round=>
      obtain⟨rfl,rfl⟩:=hrel;go_wp2_with fail
      go_loopw [10] (fun v wx=>v=.slice none 0 0∧wx=wr) (fun _ _=>0)
      case atStart=>exact⟨rfl,rfl⟩
      case round=>
       obtain⟨rfl,rfl⟩:=hrel;go_wp2_with fail;go_ret2;exact⟨rfl,(by decide),_,I8.out,K8.out⟩
   · by_cases qb:30<b+1
     · rw[if_pos (.inr qb)] at hR
       have hRe:R=.error 162:=hR.symm;subst hRe;have d0:decide (286<(a:Int)+257)=false:=decide_eq_false (by omega);have d1:decide (30<(b:Int)+1)=true:=decide_eq_true (by omega);have dn:((162:Int)==0)=false:=by decide
       have dp:((162:Int) !=0)=true:=by decide
       have HF:=hid (rfail_s I3.out 162 162 rfl);have dk:decide ((0:Int)<(k:Int)+4)=true:=decide_eq_true (by omega);clear hR qa qb
       go_wp2_with (first
        |(go_at_call 76;(with_reducible refine HF.out.mono ?_);rintro e w7 ⟨rfl,i7,k7⟩;have I7:=hid i7;have K7:=hid (kgg K3.out k7);clear i7 k7)
        |(go_at_call 68;(with_reducible refine(V.order_any _).mono ?_);rintro e w8 ⟨rfl,o8,b8⟩
          have b9:=(Below.refl w7.heap.size w7).alloc (Nat.le_refl _) (.cells (madeCells #[.int .u8 0] 19) 5);have b10:Below w7.heap.size w7 w8:=b9.trans (b8.mono b9.size);have i8:=(I7.out).below b10;obtain⟨cp8,c80,c81,c82,_⟩:=i8.cells;have I8:=hid i8;have K8:=hid ((K7.out).trans (Kept.of_below b10) (fun _ e=>e.elim));clear o8 b8 b9 b10 i8 c80 c81))
       clear hmk
       go_loopw [9] (fun i wx=>i=.int .i64 0∧wx=w8) (fun _ _=>0)
       case atStart=>exact⟨rfl,rfl⟩
       case round=>
        obtain⟨rfl,rfl⟩:=hrel;go_wp2_with fail
        go_loopw [10] (fun v wx=>v=.slice none 0 0∧wx=wr) (fun _ _=>0)
        case atStart=>exact⟨rfl,rfl⟩
        case round=>
         obtain⟨rfl,rfl⟩:=hrel;go_wp2_with fail;go_ret2;exact⟨rfl,(by decide),_,I8.out,K8.out⟩
     · rw[if_neg (fun h=>h.elim qa qb)] at hR
       have d0:decide (286<(a:Int)+257)=false:=decide_eq_false (by omega);have d1:decide (30<(b:Int)+1)=false:=decide_eq_false (by omega)
       go_wp2_with (go_at_call 68;(with_reducible refine(V.order_any _).mono ?_);rintro e w8 ⟨rfl,o8,b8⟩
                    have b9:=(Below.refl w3.heap.size w3).alloc (Nat.le_refl _) (.cells (madeCells #[.int .u8 0] 19) 5);have b10:Below w3.heap.size w3 w8:=b9.trans (b8.mono b9.size);have br8:=(Br.made' w3 19).below b8 (Br.made' w3 19).lt;have o9:U.IsBys w8 (some ⟨w3.heap.size+1,0,none⟩) 19 V.ord:=(by simpa using o8);have I8:=hid ((I3.out).below b10);have K8:=hid ((K3.out).trans (Kept.of_below b10) (fun _ e=>e.elim));have Br8:=hid br8;have O9:=hid o9;clear o8 o9 br8 b8 b9 b10)
       clear hmk;have hsz:=K3.out.size;have hg3:=HI.out.glt;have hr3:=HI.out.rlt;obtain⟨ob,hob⟩:∃ob,w3.heap.size=ob:=⟨_,rfl⟩
       obtain⟨ow,how⟩:∃ow,ob+1=ow:=⟨_,rfl⟩
       rw[hob] at Br8 O9 hsz ⊢;rw[how] at O9 ⊢;have hobg:ob≠g:=by omega
       have hobr:ob≠r:=by omega
       have howg:ow≠g:=by omega
       have howb:ow≠ob:=by omega
       have HOrd:=hid (fun(W:World) (hk:Kept (fun j=>j=g∨j=ob) w8 W) (j:Nat) (hj:j<19)=>(show W.cell? ⟨ow,j,none⟩=some (.int .u8 ((od.getD j 0:Nat):Int)) from by
        obtain⟨b',o',e1,e2,e3⟩:=O9.out.at (by decide);injection e1 with e1
        injection e1 with e1 e4 _
        subst e1;subst e4;have:=e3 j hj;rw[Nat.zero_add,ord_od] at this;exact(World.cell?_of_block (a:=⟨ow,j,none⟩) (hk.block ow e2 (fun e=>by rcases e with e|e<;>omega))).trans this))
       have HKw:=hid (fun(W:World) (hk:Kept (fun j=>j=g∨j=ob) w8 W)=>(show Kept (fun j=>j=g) w W from K8.out.trans hk (fun j e=>by rcases e with e|e;exact .inl e;exact .inr (by omega))));have HSt:=hid (show bnd (ownR (k+4 - 0) 0 fun _=>0) (fun o=>lens3 K a b o) s D L x3=R from hR);clear hR qa qb hob how O9 c32
       go_loopw [9] (fun i wr=> ∃j:Nat,j≤k+4∧i=.int .i64 j∧Kept (fun j=>j=g∨j=ob) w8 wr∧((∃o x',Rin wr B g r s D L 0 x'∧Br wr ob 19 o∧(∀i,o i≤7)∧x.1≤x'.1∧bnd (ownR (k+4 - j) j o) (fun o=>lens3 K a b o) s D L x'=R)∨(∃c y,R=.error c∧c≠0∧Rin wr B g r s D L c y))) (fun i _=>k+4 - (intOf i).toNat)
       case atStart=>exact⟨0,Nat.zero_le _,rfl,Kept.refl _ _,.inl ⟨_,_,I8.out,Br8.out,fun _=>Nat.zero_le _,hx3,HSt.out⟩⟩
       case round=>
        obtain⟨j,hj,rfl,hkk,hcase⟩:=hrel;have HKk:=hid hkk;clear hkk HSt;rcases hcase with⟨o,x',hI,hBr,ho7,hxx,hRj⟩|⟨c,y,hRc,hc0,hI⟩
        · obtain⟨cp8,c80,c81,c82,_⟩:=hI.cells
          have HI9:=hid hI;have HBr:=hid hBr;clear hI hBr c80 c81;by_cases hlt:j<k+4
          · have d2:decide ((j:Int)<(k:Int)+4)=true:=decide_eq_true (by omega)
            have hj19:j<19:=by omega
            have co:=HOrd.out wr HKk.out j hj19;have hq19:od.getD j 0<19:=(by decide:∀j,j<19→od.getD j 0<19) j hj19;obtain⟨q,hq⟩:∃q,od.getD j 0=q:=⟨_,rfl⟩
            rw[hq] at co hq19;have HBt:=hid (fun(W:World) (hk:Kept NoB wr W)=>rbits_w (z:=3) (n:=3) (HI9.out.same hk) hs rfl (by decide));have HCo:=hid co;have HQ:=hid hq;have HRj:=hid hRj;clear hRj hq;go_wp2_with fail
            go_region_with (go_at_call 71;(with_reducible refine(HBt.out _ (by first|exact(Kept.refl _ _).drew|exact Kept.refl _ _|exact(Kept.refl _ _).drewN _)).mono ?_);rintro en w9 ⟨v,ec,y,rfl,hv,i9,k9,q9⟩
                            have hv8:v<8:=hv;have wv:IntKind.u8.wrap (v:Int)=(v:Int):=(by rw[IntKind.wrap_u8'];omega);have br9:=br_go (w:=wr) (w':=w9) HBr.out (by first|exact k9|exact⟨k9.os,k9.tape,k9.output,k9.size,k9.block⟩|skip) hobg;have fz9:=br9.frozen q;have cb9:=br9.cell hq19;have co9:w9.cell? ⟨ow,j,none⟩=some (.int .u8 (q:Int)):=(k9.cell (a:=⟨ow,j,none⟩) HCo.out howg);have HBr9:=hid br9;have HI10:=hid i9;have HK9:=hid (show Kept (fun j=>j=g) wr w9 from by first|exact k9|exact kgg ((Kept.refl _ wr).drew) k9);have HQ9:=hid q9;clear br9 i9 k9 q9 hv)
            all_goals
             go_wp2_with fail;go_roundw
             case rel=>
              refine⟨j+1,by omega,by go_num,(HKk.out.trans HK9.out (fun _ e=> .inl (.inl e))).setCell ⟨ob,q,none⟩ (.inl (.inr rfl)) _,?_⟩;have hRn:=HRj.out;rw[show k+4 - j=(k+4 - (j+1))+1 by omega,ownR,bnd_assoc] at hRn;rcases HQ9.out with⟨rfl,_,qb⟩|⟨nc,qb,_⟩
              · refine .inl ⟨fun i=>if i=q then v else o i,y,HI10.out.set_off hobg hobr,HBr9.out.set q v,fun i=> ?_,Nat.le_trans hxx ((Nice.bits 3).mono qb).1,?_⟩
                · show(if i=q then v else o i)≤7
                  by_cases e:i=q
                  · rw[if_pos e];omega
                  · rw[if_neg e];exact ho7 i
                · rw[bnd_of qb,HQ.out] at hRn
                  exact hRn
              · rw[bnd_er (qb (by first|rfl|trivial))] at hRn
                exact .inr ⟨ec,y,hRn.symm,nc,HI10.out.set_off hobg hobr⟩
             case measure=>simp[intOf];omega
          · obtain rfl:j=k+4:=by omega
            rw[Nat.sub_self] at hRj;have hR3:lens3 K a b o s D L x'=R:=hRj;have HKd:=hid (C.rkind_any (some ⟨ob,0,none⟩) 19 19 o wr (by decide) (fun i=>by have:=ho7 i;omega) HBr.out.nums);unfold lens3 at hR3;clear hRj;obtain⟨κ,hκ⟩:∃κ,kind o 19=κ:=⟨_,rfl⟩
            rw[hκ] at HKd;by_cases hk2:kind o 19≠2
            · rw[if_pos hk2] at hR3
              have hRe:R=.error 162:=hR3.symm;subst hRe;have d3:((κ:Int) !=2)=true:=by rw[bne_iff_ne];omega
              have dn:((162:Int)==0)=false:=by decide
              have dp:((162:Int) !=0)=true:=by decide
              have HF:=hid (rfail_s HI9.out 162 162 rfl);have HKw9:=hid (HKw.out _ HKk.out);clear hR3 hk2 hκ
              go_wp2_with (first
               |(go_at_call 97;(with_reducible refine HKd.out.mono ?_);rintro e w10 ⟨rfl,rfl⟩)
               |(go_at_call 76;(with_reducible refine HF.out.mono ?_);rintro e w11 ⟨rfl,i7,k7⟩;obtain⟨cp11,c110,c111,c112,_⟩:=i7.cells;have I7:=hid i7;have K7:=hid (kgg HKw9.out k7);clear i7 k7 c110 c111))
              go_wp2_with fail
              go_loopw [10] (fun v wx=>v=.slice none 0 0∧wx=w11) (fun _ _=>0)
              case atStart=>exact⟨rfl,rfl⟩
              case round=>
               obtain⟨rfl,rfl⟩:=hrel;go_wp2_with fail;go_ret2;exact⟨rfl,(by decide),_,I7.out,K7.out⟩
            · rw[if_neg hk2] at hR3
              have d3:((κ:Int) !=2)=false:=by rw[bne_eq_false_iff_eq];omega
              have hTb:Tbl o 19:=.inr (.inr (Classical.byContradiction hk2));have HKw9:=hid (HKw.out _ HKk.out);clear hk2 hκ;go_wp2_with (go_at_call 97;(with_reducible refine HKd.out.mono ?_);rintro e w10 ⟨rfl,rfl⟩);have HoBr:=hid HBr.out.lt;have hwB0:=HKw9.out.size;have hgB0:=HI9.out.glt;have hrB0:=HI9.out.rlt;obtain⟨B1,hB1⟩:∃B1,wr.heap.size=B1:=⟨_,rfl⟩
              have hoB:ob<B1:=by rw[←hB1];exact HoBr.out
              rw[hB1] at hwB0 hgB0 hrB0;have hwB:w.heap.size≤B1:=hwB0;have hgB:g<B1:=hgB0;have hrB:r<B1:=hrB0;have HS1:=hid (show B1≤wr.heap.size from by omega);have HR3:=hid hR3;have hK1:8*s.size - x'.1<K:=by omega
              have HTb:=hid hTb;clear hB1 hwB0 hgB0 hrB0 hR3 hTb c82
              go_loopw [10] (fun v wx=> ∃all x2,U.Owb B1 wx v all∧(∀u∈all,u≤15)∧Br wx ob 19 o∧Kept (fun j=>j=g) w wx∧B1≤wx.heap.size∧Rin wx B g r s D L 0 x2∧((∃k2,all.length≤a+257+(b+1)∧8*s.size - x2.1<k2∧bnd (loopR (len1 o (a+257+(b+1))) k2 all) (fun all=>lens4 a b all) s D L x2=R)∨(a+257+(b+1)<all.length∧all.length≤a+257+(b+1)+138∧R=.error 162))) (fun _ wx=>rms g (8*s.size) wx)
              case atStart=>exact⟨[],x',U.Owb.nil _ _,fun u h=>absurd h (by simp),HBr.out,HKw9.out,HS1.out,HI9.out,.inl ⟨K,Nat.zero_le _,hK1,HR3.out⟩⟩
              case round=>
               obtain⟨all,x2,hOw,h15,hBr2,hK2,hS2,hI2,hcs⟩:=hrel;clear HR3 HS1;obtain⟨A,c,rfl,hby⟩:=hOw.bys (fun u hu=>by have:=h15 u hu;omega) (by unfold maxLen;rcases hcs with⟨_,h,_⟩|⟨_,h,_⟩<;>omega);have HO2:=hid hOw;have H15:=hid h15;have Br2:=hid hBr2;have K2:=hid hK2;have S2:=hid hS2;have I2:=hid hI2;have HMs:=hid (hI2.start.rms_0 (8*s.size));have hal2:=hI2.al;obtain⟨cp2,c20,c21,c22,_⟩:=hI2.cells;obtain⟨m,hm⟩:∃m,all.length=m:=⟨_,rfl⟩
               rw[hm] at HO2 hcs ⊢;have HM:=hid hm;clear hOw h15 hBr2 hK2 hS2 hI2 hby c20 c21 hm;rcases hcs with⟨k2,hmN,hk2,hRr⟩|⟨hmN,hm138,hRe⟩
               · by_cases hlt:m<a+257+(b+1)
                 · have d4:decide ((m:Int)<(a:Int)+257+((b:Int)+1))=true:=decide_eq_true (by omega)
                   obtain⟨k2,rfl⟩:∃j,k2=j+1:=⟨k2 - 1,by omega⟩
                   have HRr:=hid hRr;have hAp:Apn wr g r (some ⟨ob,0,none⟩) 19 o:=fun _=>⟨ob,0,rfl,Br2.out.lt,hobg,hobr,fun i hi=>by rw[Nat.zero_add];exact Br2.out.cell hi⟩
                   have HCd:=hid (rcode_s (c:=19) I2.out hs hAp (fun i=>by have:=ho7 i;omega) HTb.out (by decide));clear hRr hAp;go_wp2_with fail;refine HCd.out.mono ?_
                   intro en w5 o5
                   have hl0:∀ (res:Except Nat ((List Nat ⊕ List Nat)×St)),len1 o (a+257+(b+1)) all s D L x2=res→(∀c,res=.error c→R=.error c):=fun res h1 c h2=>by
                    have h3:=HRr.out;rw[loopR,bnd_assoc,bnd_er (h1.trans h2)] at h3;exact h3.symm
                   have HL0:=hid hl0;clear hl0;cases hn:nxt o 19 s D L x2 with
                   |error c5=>
                    rw[hn] at o5;obtain⟨o1,hc5,y,i5,k5⟩:=o5;unfold Rzero at o1;subst o1
                    have hRe:R=.error c5:=HL0.out _ rfl c5 (by
                     unfold len1;rw[if_neg (by rw[HM.out];omega)];exact bnd_er hn)
                    subst hRe;have HRb:=hid (fun w=>show Calls Tryz.prog 69 #[.int .u8 0] w fun x w'=>x=.returned (.int .i64 0)∧w=w' from U.rbits_any 0 w (by decide));have HB0:=hid (show Calls Tryz.prog 71 #[.pointer (some ⟨g,0,none⟩),.int .i64 0] w5 fun e w'=>e=.returned (.int .i64 0)∧Kept NoB w5 w' from rbits_e i5 hc5 0 (by decide));have dn:((c5:Int) !=0)=true:=by rw[bne_iff_ne];omega
                    have I5:=hid i5;have K5:=hid (kgg K2.out k5);have Hc5:=hid hc5;clear hn i5 k5 HCd
                    go_wp2_with (first
                     |(go_at_call 69;(with_reducible refine(HRb.out _).mono ?_);rintro e w6 ⟨rfl,rfl⟩)
                     |(go_at_call 71;(with_reducible refine HB0.out.mono ?_);rintro e w6 ⟨rfl,b6⟩;have i6:=I5.out.same b6;obtain⟨cp6,c60,c61,c62,_⟩:=i6.cells;have I6:=hid i6;have K6:=hid (K5.out.trans b6 (fun _ e=>e.elim));clear b6 i6 c60 c61))
                    go_ret2;exact⟨rfl,Hc5.out,_,I6.out,K6.out⟩
                   |ok p=>
                    obtain⟨y,x3⟩:=p;rw[hn] at o5;obtain⟨o1,i5,k5⟩:=o5;unfold Rnum at o1;simp only at o1 i5;subst o1;obtain⟨_,hy19,hy0,hyl,_,hx3⟩:=nxt_ok hn hal2;have hx32:x2.1<x3.1∧x3.1≤8*s.size:=by rw[hx3];simp only;omega
                    have hmx:=(by decide:∀y,y<19→max (rbs y) 0=(rbm y:Int)∧rbm y≤7) y hy19;have HRb:=hid (fun w=>U.rbits_any y w (by omega));obtain⟨ρ,hρ⟩:∃ρ,rbs y=ρ:=⟨_,rfl⟩
                    obtain⟨M0,hM0⟩:∃M0,rbm y=M0:=⟨_,rfl⟩
                    rw[hρ,hM0] at hmx;rw[hρ] at HRb;have hmx1:=hmx.1;have hM7:=hmx.2;have wy8:IntKind.u8.wrap (y:Int)=(y:Int):=by rw[IntKind.wrap_u8'];omega
                    have I5:=hid i5;have K5:=hid (kgg K2.out k5);have O5:=hid (owb_go HO2.out k5 hgB);have Br5:=hid (br_go Br2.out k5 hobg);have S5:=hid (Nat.le_trans S2.out k5.size);have HN:=hid hn;have HM0:=hid hM0;clear hn i5 k5 HCd hx3 hmx hρ hM0 hy0 hyl;go_wp2_with (go_at_call 69;(with_reducible refine(HRb.out _).mono ?_);rintro e w6 ⟨rfl,rfl⟩);refine(rbits_s I5.out hs M0 (by omega)).mono ?_
                    intro en w6 o6;cases hb:bits M0 s D L x3 with
                    |error c5=>
                     rw[hb] at o6;obtain⟨o1,hc5,y6,i6,k6⟩:=o6;unfold Rzero at o1;subst o1
                     have hRe:R=.error c5:=HL0.out _ rfl c5 (by
                      unfold len1;rw[if_neg (by rw[HM.out];omega),bnd_of HN.out,HM0.out];exact bnd_er hb)
                     subst hRe;have dn:((c5:Int) !=0)=true:=by rw[bne_iff_ne];omega
                     obtain⟨cp6,c60,c61,c62,_⟩:=i6.cells;have I6:=hid i6;have K6:=hid (kgg K5.out k6);have Hc5:=hid hc5;clear hb i6 k6 c60 c61;go_wp2_with fail;go_ret2;exact⟨rfl,Hc5.out,_,I6.out,K6.out⟩
                    |ok p=>
                     obtain⟨e,x4⟩:=p;rw[hb] at o6;obtain⟨o1,i6,k6⟩:=o6;unfold Rnum at o1;simp only at o1 i6;subst o1;obtain⟨he,hx4⟩:=bits_lt hb 128 (Nat.pow_le_pow_right (by decide) hM7:2^M0≤2^7)
                     have HX4:=hid (show 8*s.size - x4.1<k2∧x2.1<x4.1∧x4.1≤8*s.size from by
                      have h1:=(Nice.bits M0).inn hb hx32.2;have h2:x3.1≤x4.1:=by rw[hx4];simp only;omega
                      omega)
                     have HBb:=hid (show bits (rbm y) s D L x3=.ok (e,x4) from by rw[HM0.out];exact hb);have we8:IntKind.u8.wrap (e:Int)=(e:Int):=by rw[IntKind.wrap_u8'];omega
                     have HTi:=hid (fun w=>U.rtimes_any y e w (by omega) (by omega));obtain⟨T,hT⟩:∃T,tms ⟨y,e⟩=T:=⟨_,rfl⟩
                     have hT138:=tms_le ⟨y,e⟩;rw[hT] at HTi hT138;have HTm:=hid hT;have HT138:=hid hT138;obtain⟨cp6,c60,c61,c62,_⟩:=i6.cells;have I6:=hid i6;have K6:=hid (kgg K5.out k6);have O6:=hid (owb_go O5.out k6 hgB);have Br6:=hid (br_go Br5.out k6 hobg);have S6:=hid (Nat.le_trans S5.out k6.size);clear hb i6 k6 c60 c61 hT hT138 hx4 hmx1 hx32 HM0 HRb;by_cases h16:y=16
                     · have e1:((y:Int)==16)=true:=by rw[beq_iff_eq];omega
                       have e1':(y==16)=true:=by rw[beq_iff_eq];exact h16
                       have e2:decide (16<(y:Int))=false:=decide_eq_false (by omega);have e2':decide (16<y)=false:=decide_eq_false (by omega);by_cases hm0:m=0
                       · have hRe:R=.error 162:=HL0.out _ rfl 162 (by
                          unfold len1;rw[if_neg (by rw[HM.out];omega),bnd_of HN.out,bnd_of HBb.out,if_pos (.inl ⟨h16,List.eq_nil_of_length_eq_zero (by rw[HM.out];exact hm0)⟩)];rfl)
                         subst hRe;have e3:((m:Int)==0)=true:=by rw[beq_iff_eq];omega
                         have e3':(m==0)=true:=by rw[beq_iff_eq];exact hm0
                         have HF:=hid (rfail_s I6.out 162 162 rfl);clear h16 hm0;go_wp2_with (go_at_call 76;(with_reducible refine HF.out.mono ?_);rintro e w7 ⟨rfl,i7,k7⟩;have I7:=hid i7;have K7:=hid (kgg K6.out k7);clear i7 k7);go_ret2;exact⟨rfl,by decide,_,I7.out,K7.out⟩
                       · have e3:((m:Int)==0)=false:=by rw[beq_eq_false_iff_ne];omega
                         have e3':(m==0)=false:=by rw[beq_eq_false_iff_ne];exact hm0
                         rcases owb_at O6.out with⟨_,h0⟩|⟨bA,cA,hAe,hbA,hbA2,hcA,hcell⟩
                         · exact absurd (by rw[←HM.out,h0];rfl) hm0
                         injection hAe with hA1 hA2 hA3
                         subst hA1;have hla:=lastD_at all;rw[HM.out] at hla hcell;obtain⟨l1,hl1⟩:∃l1,m - 1=l1:=⟨_,rfl⟩
                         have z3:IntKind.i64.wrap ((m:Int) - 1)=(l1:Int):=by rw[IntWalk.i64_in _ ⟨by omega,by omega⟩];omega
                         have z4:l1<m:=by omega
                         have c6A:=hcell l1 z4;rw[hl1] at hla
                         have hv15:all.getD l1 0≤15:=by
                          rw[List.getD,List.getElem?_eq_getElem (by rw[HM.out];exact z4)];exact H15.out _ (List.getElem_mem _)
                         obtain⟨vv,hvv⟩:∃vv,all.getD l1 0=vv:=⟨_,rfl⟩
                         rw[hvv] at c6A hla hv15;have HVl:=hid (show vlr all ⟨y,e⟩=vv from by unfold vlr;simp only;rw[if_pos h16];exact hla);have HVv:=hid hv15;have HNo:=hid (show ¬(y=16∧all=[]) from fun q=>hm0 (by rw[←HM.out,q.2];rfl));clear h16 hm0 hla hcell hl1 hvv hv15 hcA hA2 hA3;go_wp2_with (go_at_call 112;(with_reducible refine(HTi.out _).mono ?_);rintro e w7 ⟨rfl,b7⟩;have I7:=hid (I6.out.below b7);have K7:=hid (K6.out.trans (Kept.of_below b7) (fun _ e=>e.elim));have O7:=hid (O6.out.below b7);have Br7:=hid (Br6.out.below b7 Br6.out.lt);have S7:=hid (Nat.le_trans S6.out b7.size);clear b7)
                         go_loopw [10,15] (fun y3 z wx=> ∃i:Nat,i≤T∧z=.int .i64 i∧U.Owb B1 wx y3 (all++List.replicate i vv)∧Br wx ob 19 o∧Kept (fun j=>j=g) w wx∧B1≤wx.heap.size∧Rin wx B g r s D L 0 x4) (fun _ z _=>T - (intOf z).toNat)
                         case atStart=>exact⟨0,Nat.zero_le _,rfl,by rw[List.replicate_zero,List.append_nil];exact O7.out,Br7.out,K7.out,S7.out,I7.out⟩
                         case round=>
                          obtain⟨i,hi,rfl,hoi,hbri,hki,hsi,hIi⟩:=hrel;have HOi:=hid hoi;have HBri:=hid hbri;have HKi:=hid hki;have HIi:=hid hIi;have HSi:=hid hsi;clear hoi hbri hki hIi hsi;by_cases hik:i<T
                          · have hT8:T≤138:=HT138.out
                            have d6:decide ((i:Int)<(T:Int))=true:=decide_eq_true (by omega);have d6':decide (i<T)=true:=decide_eq_true hik;go_wp2_with (at_builtin;refine U.wpList_ab rfl (.tmp 130) (.tmp 132) rfl B1 _ (all++List.replicate i vv) rfl (HOi.out.alloc _) wr.heap.size 1 vv rfl (by simp) (by rw[List.length_append,List.length_replicate,HM.out];have:=HT138.out;omega) (by have:=HSi.out;simp;omega) ?_;intro v' w' o' g' b';have HO4:=hid o';have HB4:=hid (((Below.refl B1 wr).alloc HSi.out _).trans b');clear o' g' b');go_roundw
                            case rel=>exact⟨i+1,by omega,by go_num,by rw[List.replicate_succ',←List.append_assoc];exact HO4.out,HBri.out.below HB4.out hoB,kg_low HKi.out HB4.out hwB,Nat.le_trans HSi.out HB4.out.size,HIi.out.low HB4.out hgB hrB⟩
                            case measure=>(simp[intOf];try omega)
                          · obtain rfl:i=T:=by omega
                            go_wp2_with fail;go_roundw
                            case rel=>
                             have hnl:(all++List.replicate i vv).length=m+i:=by rw[List.length_append,List.length_replicate,HM.out]
                             refine⟨all++List.replicate i vv,x4,HOi.out,fun u hu=> ?_,HBri.out,HKi.out,HSi.out,HIi.out,?_⟩
                             · rcases List.mem_append.1 hu with q|q
                               · exact H15.out u q
                               · rw[(List.mem_replicate.1 q).2];exact HVv.out
                             · have hl1:len1 o (a+257+(b+1)) all s D L x2=(if a+257+(b+1)<m+i then fl 162 else pur (.inl (all++List.replicate i vv)):Rm (List Nat ⊕ List Nat)) s D L x4:=by
                                unfold len1;rw[if_neg (by rw[HM.out];omega),bnd_of HN.out,bnd_of HBb.out];simp only[HTm.out,HVl.out,HM.out];by_cases q:a+257+(b+1)<m+i
                                · rw[if_pos (.inr q),if_pos q]
                                · rw[if_neg (fun h=>h.elim HNo.out q),if_neg q]
                               have hRr:=HRr.out;rw[loopR,bnd_assoc] at hRr;by_cases q:a+257+(b+1)<m+i
                               · rw[if_pos q] at hl1
                                 rw[bnd_er (show len1 o (a+257+(b+1)) all s D L x2=.error 162 from hl1)] at hRr;exact .inr ⟨by rw[hnl];exact q,by rw[hnl];have:=HT138.out;omega,hRr.symm⟩
                               · rw[if_neg q] at hl1
                                 rw[bnd_of (show len1 o (a+257+(b+1)) all s D L x2=.ok (.inl (all++List.replicate i vv),x4) from hl1)] at hRr;exact .inl ⟨k2,by rw[hnl];omega,by have:=HX4.out;omega,hRr⟩
                            case measure=>rw[HIi.out.start.rms_0,HMs.out];have:=HX4.out;omega
                     · have e1:((y:Int)==16)=false:=by rw[beq_eq_false_iff_ne];omega
                       have e1':(y==16)=false:=by rw[beq_eq_false_iff_ne];exact h16
                       have HNo:=hid (show ¬(y=16∧all=[]) from fun q=>h16 q.1);by_cases h17:16<y
                       · have e2:decide (16<(y:Int))=true:=decide_eq_true (by omega)
                         have e2':decide (16<y)=true:=decide_eq_true h17;have HVl:=hid (show vlr all ⟨y,e⟩=0 from by unfold vlr;simp only;rw[if_neg h16,if_pos h17]);have HVv:=hid (show(0:Nat)≤15 by omega);clear h16 h17;go_wp2_with (go_at_call 112;(with_reducible refine(HTi.out _).mono ?_);rintro e w7 ⟨rfl,b7⟩;have I7:=hid (I6.out.below b7);have K7:=hid (K6.out.trans (Kept.of_below b7) (fun _ e=>e.elim));have O7:=hid (O6.out.below b7);have Br7:=hid (Br6.out.below b7 Br6.out.lt);have S7:=hid (Nat.le_trans S6.out b7.size);clear b7)
                         go_loopw [10,15] (fun y3 z wx=> ∃i:Nat,i≤T∧z=.int .i64 i∧U.Owb B1 wx y3 (all++List.replicate i 0)∧Br wx ob 19 o∧Kept (fun j=>j=g) w wx∧B1≤wx.heap.size∧Rin wx B g r s D L 0 x4) (fun _ z _=>T - (intOf z).toNat)
                         case atStart=>exact⟨0,Nat.zero_le _,rfl,by rw[List.replicate_zero,List.append_nil];exact O7.out,Br7.out,K7.out,S7.out,I7.out⟩
                         case round=>
                          obtain⟨i,hi,rfl,hoi,hbri,hki,hsi,hIi⟩:=hrel;have HOi:=hid hoi;have HBri:=hid hbri;have HKi:=hid hki;have HIi:=hid hIi;have HSi:=hid hsi;clear hoi hbri hki hIi hsi;by_cases hik:i<T
                          · have hT8:T≤138:=HT138.out
                            have d6:decide ((i:Int)<(T:Int))=true:=decide_eq_true (by omega);have d6':decide (i<T)=true:=decide_eq_true hik;go_wp2_with (at_builtin;refine U.wpList_ab rfl (.tmp 130) (.tmp 132) rfl B1 _ (all++List.replicate i 0) rfl (HOi.out.alloc _) wr.heap.size 1 0 rfl (by simp) (by rw[List.length_append,List.length_replicate,HM.out];have:=HT138.out;omega) (by have:=HSi.out;simp;omega) ?_;intro v' w' o' g' b';have HO4:=hid o';have HB4:=hid (((Below.refl B1 wr).alloc HSi.out _).trans b');clear o' g' b');go_roundw
                            case rel=>exact⟨i+1,by omega,by go_num,by rw[List.replicate_succ',←List.append_assoc];exact HO4.out,HBri.out.below HB4.out hoB,kg_low HKi.out HB4.out hwB,Nat.le_trans HSi.out HB4.out.size,HIi.out.low HB4.out hgB hrB⟩
                            case measure=>(simp[intOf];try omega)
                          · obtain rfl:i=T:=by omega
                            go_wp2_with fail;go_roundw
                            case rel=>
                             have hnl:(all++List.replicate i 0).length=m+i:=by rw[List.length_append,List.length_replicate,HM.out]
                             refine⟨all++List.replicate i 0,x4,HOi.out,fun u hu=> ?_,HBri.out,HKi.out,HSi.out,HIi.out,?_⟩
                             · rcases List.mem_append.1 hu with q|q
                               · exact H15.out u q
                               · rw[(List.mem_replicate.1 q).2];exact HVv.out
                             · have hl1:len1 o (a+257+(b+1)) all s D L x2=(if a+257+(b+1)<m+i then fl 162 else pur (.inl (all++List.replicate i 0)):Rm (List Nat ⊕ List Nat)) s D L x4:=by
                                unfold len1;rw[if_neg (by rw[HM.out];omega),bnd_of HN.out,bnd_of HBb.out];simp only[HTm.out,HVl.out,HM.out];by_cases q:a+257+(b+1)<m+i
                                · rw[if_pos (.inr q),if_pos q]
                                · rw[if_neg (fun h=>h.elim HNo.out q),if_neg q]
                               have hRr:=HRr.out;rw[loopR,bnd_assoc] at hRr;by_cases q:a+257+(b+1)<m+i
                               · rw[if_pos q] at hl1
                                 rw[bnd_er (show len1 o (a+257+(b+1)) all s D L x2=.error 162 from hl1)] at hRr;exact .inr ⟨by rw[hnl];exact q,by rw[hnl];have:=HT138.out;omega,hRr.symm⟩
                               · rw[if_neg q] at hl1
                                 rw[bnd_of (show len1 o (a+257+(b+1)) all s D L x2=.ok (.inl (all++List.replicate i 0),x4) from hl1)] at hRr;exact .inl ⟨k2,by rw[hnl];omega,by have:=HX4.out;omega,hRr⟩
                            case measure=>rw[HIi.out.start.rms_0,HMs.out];have:=HX4.out;omega
                       · have e2:decide (16<(y:Int))=false:=decide_eq_false (by omega)
                         have e2':decide (16<y)=false:=decide_eq_false h17;have HVl:=hid (show vlr all ⟨y,e⟩=y from by unfold vlr;simp only;rw[if_neg h16,if_neg h17]);have HVv:=hid (show y≤15 by omega);clear h16 h17;go_wp2_with (go_at_call 112;(with_reducible refine(HTi.out _).mono ?_);rintro e w7 ⟨rfl,b7⟩;have I7:=hid (I6.out.below b7);have K7:=hid (K6.out.trans (Kept.of_below b7) (fun _ e=>e.elim));have O7:=hid (O6.out.below b7);have Br7:=hid (Br6.out.below b7 Br6.out.lt);have S7:=hid (Nat.le_trans S6.out b7.size);clear b7)
                         go_loopw [10,15] (fun y3 z wx=> ∃i:Nat,i≤T∧z=.int .i64 i∧U.Owb B1 wx y3 (all++List.replicate i y)∧Br wx ob 19 o∧Kept (fun j=>j=g) w wx∧B1≤wx.heap.size∧Rin wx B g r s D L 0 x4) (fun _ z _=>T - (intOf z).toNat)
                         case atStart=>exact⟨0,Nat.zero_le _,rfl,by rw[List.replicate_zero,List.append_nil];exact O7.out,Br7.out,K7.out,S7.out,I7.out⟩
                         case round=>
                          obtain⟨i,hi,rfl,hoi,hbri,hki,hsi,hIi⟩:=hrel;have HOi:=hid hoi;have HBri:=hid hbri;have HKi:=hid hki;have HIi:=hid hIi;have HSi:=hid hsi;clear hoi hbri hki hIi hsi;by_cases hik:i<T
                          · have hT8:T≤138:=HT138.out
                            have d6:decide ((i:Int)<(T:Int))=true:=decide_eq_true (by omega);have d6':decide (i<T)=true:=decide_eq_true hik;go_wp2_with (at_builtin;refine U.wpList_ab rfl (.tmp 130) (.tmp 132) rfl B1 _ (all++List.replicate i y) rfl (HOi.out.alloc _) wr.heap.size 1 y rfl (by simp) (by rw[List.length_append,List.length_replicate,HM.out];have:=HT138.out;omega) (by have:=HSi.out;simp;omega) ?_;intro v' w' o' g' b';have HO4:=hid o';have HB4:=hid (((Below.refl B1 wr).alloc HSi.out _).trans b');clear o' g' b');go_roundw
                            case rel=>exact⟨i+1,by omega,by go_num,by rw[List.replicate_succ',←List.append_assoc];exact HO4.out,HBri.out.below HB4.out hoB,kg_low HKi.out HB4.out hwB,Nat.le_trans HSi.out HB4.out.size,HIi.out.low HB4.out hgB hrB⟩
                            case measure=>(simp[intOf];try omega)
                          · obtain rfl:i=T:=by omega
                            go_wp2_with fail;go_roundw
                            case rel=>
                             have hnl:(all++List.replicate i y).length=m+i:=by rw[List.length_append,List.length_replicate,HM.out]
                             refine⟨all++List.replicate i y,x4,HOi.out,fun u hu=> ?_,HBri.out,HKi.out,HSi.out,HIi.out,?_⟩
                             · rcases List.mem_append.1 hu with q|q
                               · exact H15.out u q
                               · rw[(List.mem_replicate.1 q).2];exact HVv.out
                             · have hl1:len1 o (a+257+(b+1)) all s D L x2=(if a+257+(b+1)<m+i then fl 162 else pur (.inl (all++List.replicate i y)):Rm (List Nat ⊕ List Nat)) s D L x4:=by
                                unfold len1;rw[if_neg (by rw[HM.out];omega),bnd_of HN.out,bnd_of HBb.out];simp only[HTm.out,HVl.out,HM.out];by_cases q:a+257+(b+1)<m+i
                                · rw[if_pos (.inr q),if_pos q]
                                · rw[if_neg (fun h=>h.elim HNo.out q),if_neg q]
                               have hRr:=HRr.out;rw[loopR,bnd_assoc] at hRr;by_cases q:a+257+(b+1)<m+i
                               · rw[if_pos q] at hl1
                                 rw[bnd_er (show len1 o (a+257+(b+1)) all s D L x2=.error 162 from hl1)] at hRr;exact .inr ⟨by rw[hnl];exact q,by rw[hnl];have:=HT138.out;omega,hRr.symm⟩
                               · rw[if_neg q] at hl1
                                 rw[bnd_of (show len1 o (a+257+(b+1)) all s D L x2=.ok (.inl (all++List.replicate i y),x4) from hl1)] at hRr;exact .inl ⟨k2,by rw[hnl];omega,by have:=HX4.out;omega,hRr⟩
                            case measure=>rw[HIi.out.start.rms_0,HMs.out];have:=HX4.out;omega
                 · obtain rfl:m=a+257+(b+1):=by omega
                   obtain⟨k2,rfl⟩:∃j,k2=j+1:=⟨k2 - 1,by omega⟩
                   have hl1:len1 o (a+257+(b+1)) all s D L x2=.ok (.inr all,x2):=by
                    unfold len1;rw[if_pos (by rw[HM.out];exact Nat.le_refl _)];rfl
                   rw[bnd_of (loop_end hl1)] at hRr;unfold lens4 at hRr;rcases owb_at HO2.out with⟨h0,h1⟩|⟨bA,cA,hAe,hbA,hbA2,hcA,hcell⟩
                   · exfalso
                     have:=HM.out;rw[h1] at this;simp at this
                   injection hAe with hA1 hA2 hA3
                   subst hA1;subst hA3;rw[HM.out] at hcA hcell;have c256:=hcell 256 (by omega);have d4:decide ((a:Int)+257+((b:Int)+1)<(a:Int)+257+((b:Int)+1))=false:=decide_eq_false (by omega);obtain⟨z6,hz6⟩:∃z6,all.getD 256 0=z6:=⟨_,rfl⟩
                   rw[hz6] at c256 hRr;by_cases hz0:z6=0
                   · rw[if_pos hz0] at hRr
                     have hRe:R=.error 162:=hRr.symm;subst hRe;have e3:((z6:Int)==0)=true:=by rw[beq_iff_eq];omega
                     have e3':(z6==0)=true:=by rw[beq_iff_eq];exact hz0
                     have HF:=hid (rfail_s I2.out 162 162 rfl);clear hRr hz0 hcell hlt hz6;go_wp2_with (go_at_call 76;(with_reducible refine HF.out.mono ?_);rintro e w7 ⟨rfl,i7,k7⟩;have I7:=hid i7;have K7:=hid (kgg K2.out k7);clear i7 k7);go_ret2;exact⟨rfl,by decide,_,I7.out,K7.out⟩
                   · rw[if_neg hz0] at hRr
                     have hRe:R=.ok ((all,a+257,b+1),x2):=hRr.symm;subst hRe;have e3:((z6:Int)==0)=false:=by rw[beq_eq_false_iff_ne];omega
                     have e3':(z6==0)=false:=by rw[beq_eq_false_iff_ne];exact hz0
                     have HCl:=hid hcell;have hcA2:a+257≤c:=by omega
                     have hcA3:¬(c=a+257):=by omega
                     have hcA4:¬(a+257=c):=by omega
                     clear hRr hz0 hcell hlt hz6;go_wp2_with fail
                     go_quiet (fail)
                     go_wp2_with fail;have hq:all.length - (a+257)=b+1:=by rw[HM.out];omega
                     rw[hq];go_ret2
                     exact⟨some ⟨bA,0,none⟩,c,some ⟨bA,a+257,none⟩,c - (a+257),rfl,hcA2,(by show b+1≤c - (a+257);omega),
                      fun _=>⟨bA,0,rfl,hbA2,by omega,by omega,fun i hi=>by rw[Nat.zero_add];exact HCl.out i (by simp only at hi;omega)⟩,
                      fun _=>⟨bA,a+257,rfl,hbA2,by omega,by omega,fun i hi=>HCl.out (a+257+i) (by simp only at hi;omega)⟩,
                      fun u hu=>by have:=H15.out u hu;omega,I2.out.same ((Kept.refl NoB wr).drewN _),K2.out.drewN _⟩
               · have HF:=hid (rfail_s I2.out 162 162 rfl)
                 subst hRe;have d4:decide ((m:Int)<(a:Int)+257+((b:Int)+1))=false:=decide_eq_false (by omega);have d5:decide ((a:Int)+257+((b:Int)+1)<(m:Int))=true:=decide_eq_true (by omega);go_wp2_with (go_at_call 76;(with_reducible refine HF.out.mono ?_);rintro e w7 ⟨rfl,i7,k7⟩;have I7:=hid i7;have K7:=hid (kgg K2.out k7);clear i7 k7);go_ret2;exact⟨rfl,by decide,_,I7.out,K7.out⟩
        · obtain⟨cp8,c80,c81,c82,_⟩:=hI.cells
          have dn:((c:Int)==0)=false:=by rw[beq_eq_false_iff_ne];omega
          have dp:((c:Int) !=0)=true:=by rw[bne_iff_ne];omega
          have HI9:=hid hI;have HKw9:=hid (HKw.out _ HKk.out);have Hc0:=hid hc0;subst hRc;clear hI c80 c81;by_cases hlt:j<k+4
          · have d2:decide ((j:Int)<(k:Int)+4)=true:=decide_eq_true (by omega)
            go_wp2_with fail
            go_loopw [10] (fun v wx=>v=.slice none 0 0∧wx=wr) (fun _ _=>0)
            case atStart=>exact⟨rfl,rfl⟩
            case round=>
             obtain⟨rfl,rfl⟩:=hrel;go_wp2_with fail;go_ret2;exact⟨rfl,Hc0.out,_,HI9.out,HKw9.out⟩
          · have d2:decide ((j:Int)<(k:Int)+4)=false:=decide_eq_false (by omega)
            go_wp2_with fail
            go_loopw [10] (fun v wx=>v=.slice none 0 0∧wx=wr) (fun _ _=>0)
            case atStart=>exact⟨rfl,rfl⟩
            case round=>
             obtain⟨rfl,rfl⟩:=hrel;go_wp2_with fail;go_ret2;exact⟨rfl,Hc0.out,_,HI9.out,HKw9.out⟩
 · subst hR
   have dn:((e3:Int)==0)=false:=by rw[beq_eq_false_iff_ne];omega
   have dp:((e3:Int) !=0)=true:=by rw[bne_iff_ne];omega
   have dk:decide ((0:Int)<(k:Int)+4)=true:=decide_eq_true (by omega)
   go_wp2_with (first
    |(go_at_call 68;(with_reducible refine(V.order_any _).mono ?_);rintro e w8 ⟨rfl,o8,b8⟩
      have b9:=(Below.refl w3.heap.size w3).alloc (Nat.le_refl _) (.cells (madeCells #[.int .u8 0] 19) 5);have b10:Below w3.heap.size w3 w8:=b9.trans (b8.mono b9.size);have i8:=(I3.out).below b10;obtain⟨cp8,c80,c81,c82,_⟩:=i8.cells;have I8:=hid i8;have K8:=hid ((K3.out).trans (Kept.of_below b10) (fun _ e=>e.elim));clear o8 b8 b9 b10 i8 c80 c81))
   clear hmk
   go_loopw [9] (fun i wx=>i=.int .i64 0∧wx=w8) (fun _ _=>0)
   case atStart=>exact⟨rfl,rfl⟩
   case round=>
    obtain⟨rfl,rfl⟩:=hrel;go_wp2_with fail
    go_loopw [10] (fun v wx=>v=.slice none 0 0∧wx=wr) (fun _ _=>0)
    case atStart=>exact⟨rfl,rfl⟩
    case round=>
     obtain⟨rfl,rfl⟩:=hrel;go_wp2_with fail;go_ret2;exact⟨rfl,ne3,_,I8.out,K8.out⟩
end
end Go.Proofs.YtdpabanajgegjaaGreatDoor.I
