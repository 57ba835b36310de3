/- Texts of one place, one behind the other: JdI, JdJ, JdK. -/
import Derived.Test.YtdpabanajgegjaaGreatDoorEMJdD
import Derived.Test.YtdpabanajgegjaaGreatDoorEBwG
import Derived.Test.YtdpabanajgegjaaGreatDoorEMIfC
import Derived.Test.YtdpabanajgegjaaGreatDoorEMIfH
import Derived.Test.YtdpabanajgegjaaGreatDoorEMDfO
set_option maxRecDepth 1000000
set_option linter.unusedVariables false
set_option linter.unusedSimpArgs false
namespace Go.Proofs.YtdpabanajgegjaaGreatDoor.I
open Go.Lib (hid)
open Go Go.RowKit M
theorem rfine_any{A:Option Addr}{n c:Nat}{l:Nat→Nat}{w:World}(H:Nums w .u8 A n (fun i=>(l i:Int)))(hl:∀i,l i≤255)(hn:n≤1000)(no:Bool)(h0:no=false→kind l n≠0):Calls Tryz.prog 75 #[.slice A n c,.bool no] w fun e w'=>e=.returned (.bool (decide (Tbl l n)))∧w=w':=by
 have HK:=hid (C.rkind_any A n c l w (by unfold maxLen;omega) hl H);obtain⟨κ,hκ⟩:∃κ,kind l n=κ:=⟨_,rfl⟩
 have hT:decide (Tbl l n)=(decide (κ=0)||decide (κ=1)||decide (κ=2)):=by
  rw[←Bool.decide_or,←Bool.decide_or];refine decide_eq_decide.2 ?_
  unfold Tbl;rw[hκ,or_assoc]
 rw[hT];rw[hκ] at HK h0;clear H hl hT hκ;by_cases h2:κ=2
 · subst h2
   go_enter Tryz.func75,Tryz.ntmps75;go_wp2_with (go_at_call 97;(with_reducible refine HK.out.mono ?_);rintro e w1 ⟨rfl,rfl⟩);go_ret;exact⟨rfl,rfl⟩
 · by_cases h1:κ=1
   · subst h1
     go_enter Tryz.func75,Tryz.ntmps75;go_wp2_with (go_at_call 97;(with_reducible refine HK.out.mono ?_);rintro e w1 ⟨rfl,rfl⟩);go_ret;exact⟨rfl,rfl⟩
   · have d2:((κ:Int)==2)=false:=by rw[beq_eq_false_iff_ne];omega
     have d1:((κ:Int)==1)=false:=by rw[beq_eq_false_iff_ne];omega
     have e1:decide (κ=1)=false:=decide_eq_false h1;have e2:decide (κ=2)=false:=decide_eq_false h2;rw[e1,e2,Bool.or_false,Bool.or_false];cases no with
     |true=>
      by_cases h3:κ=0
      · subst h3
        clear h0;go_enter Tryz.func75,Tryz.ntmps75;go_wp2_with (go_at_call 97;(with_reducible refine HK.out.mono ?_);rintro e w1 ⟨rfl,rfl⟩);go_ret;exact⟨rfl,rfl⟩
      · have d0:((κ:Int)==0)=false:=by rw[beq_eq_false_iff_ne];omega
        have e0:decide (κ=0)=false:=decide_eq_false h3;rw[e0];clear h0 h1 h2 h3;go_enter Tryz.func75,Tryz.ntmps75;go_wp2_with (go_at_call 97;(with_reducible refine HK.out.mono ?_);rintro e w1 ⟨rfl,rfl⟩);go_ret;exact⟨rfl,rfl⟩
     |false=>
      have h3:=h0 rfl;have e0:decide (κ=0)=false:=decide_eq_false h3;rw[e0];clear h0 h1 h2 h3;go_enter Tryz.func75,Tryz.ntmps75;go_wp2_with (go_at_call 97;(with_reducible refine HK.out.mono ?_);rintro e w1 ⟨rfl,rfl⟩);go_ret;exact⟨rfl,rfl⟩
theorem tbl_fx:Tbl fx 288:=by decide+kernel
theorem tbl_fv:Tbl (fun _=>5) 32:=by decide+kernel
theorem fx_15(i:Nat):fx i≤255:=by unfold fx;(repeat' split)<;>omega
theorem lensR_ok{K:Nat}{s:ByteArray}{D L:Nat}{x y:St}{all:List Nat}{na nb:Nat}(h:lensR K s D L x=.ok ((all,na,nb),y)):257≤na∧na≤286∧nb≤30∧all.getD 256 0≠0∧x.1≤y.1:=by
 unfold lensR at h;obtain⟨a,x1,h1,h⟩:=bnd_ok h;obtain⟨b,x2,h2,h⟩:=bnd_ok h;obtain⟨k,x3,h3,h⟩:=bnd_ok h;have m1:=((Nice.bits 5).mono h1).1;have m2:=((Nice.bits 5).mono h2).1;have m3:=((Nice.bits 4).mono h3).1;unfold lens2 at h;by_cases q:286<a+257∨30<b+1
 · rw[if_pos q] at h;cases h
 · rw[if_neg q] at h
   obtain⟨o,x4,h4,h⟩:=bnd_ok h;have m4:=((Nice.ownR _ _ _).mono h4).1;unfold lens3 at h;by_cases q2:kind o 19≠2
   · rw[if_pos q2] at h;cases h
   · rw[if_neg q2] at h
     obtain⟨al,x5,h5,h⟩:=bnd_ok h;have m5:=((Nice.loopR (fun a=>Nice.len1 _ _ a) _ _).mono h5).1;unfold lens4 at h;by_cases q3:al.getD 256 0=0
     · rw[if_pos q3] at h;cases h
     · rw[if_neg q3] at h
       cases h
       exact⟨by omega,by omega,by omega,q3,by omega⟩
def Rany(e:Ending)(_:World):Prop:=∃b,e=.returned (.bool b)
theorem kind_some{l:Nat→Nat}{n i:Nat}(hi:i<n)(h:l i≠0):kind l n≠0:=fun q=>h (weight_none n (kind_zero q) i hi)
section
variable {w w1:World} {B g r D L e:Nat} {s:ByteArray} {x y:St}
theorem apn_br{ob n:Nat}{f:Nat→Nat}(h:Br w ob n f)(hg:ob≠g)(hr:ob≠r):Apn w g r (some ⟨ob,0,none⟩) n f:=fun _=>⟨ob,0,rfl,h.lt,hg,hr,fun i hi=>by rw[Nat.zero_add];exact h.cell hi⟩
set_option maxHeartbeats 8000000 in
theorem rblock_c(h:Rin w B g r s D L 0 x)(hs:s.size≤100000)(hDL:D+L≤900000000)(K:Nat)(hK:8*s.size - x.1<K):
 Calls Tryz.prog 46 #[.pointer (some ⟨g,0,none⟩)] w (Rout w B g r s D L (blk K () s D L x) BlkV Rany):=by
 obtain⟨R,hR⟩:∃R,blk K () s D L x=R:=⟨_,rfl⟩
 rw[hR];unfold blk at hR;have hmk:∀w,(Instr.makeSlice 23 (.int .i64 32) (.int .i64 32)).run Tryz.prog w=.ok (.slice (some ⟨w.heap.size,0,none⟩) 32 32) (w.alloc (.cells (madeCells #[.int .u8 0] 32) 5)):=fun w=>C.madeByte w 32 (by omega)
 have HI:=hid h;clear h;go_enter Tryz.func46,Tryz.ntmps46;go_wp2_with fail;refine(rbits_w HI.out hs (z:=1) (n:=1) rfl (by decide)).mono ?_
 rintro en w1 ⟨f,e1,x1,rfl,hf,i1,k1,q1⟩;have hf2:f<2:=hf;have I1:=hid i1;have K1:=hid k1;have Q1:=hid q1;obtain⟨bl,hbl⟩:∃bl,decide (f=1)=bl:=⟨_,rfl⟩
 have df1:((f:Int)==1)=bl:=by rw[←hbl,Bool.eq_iff_iff,beq_iff_eq,decide_eq_true_eq];omega
 have df2:(f==1)=bl:=by rw[←hbl,Bool.eq_iff_iff,beq_iff_eq,decide_eq_true_eq]
 have hfin:∀ (s:ByteArray) (D L:Nat) (y:St),(pur (if f=1 then Sum.inr () else Sum.inl ()):Rm (Unit ⊕ Unit)) s D L y=.ok (lastV bl,y):=fun s D L y=>by
  subst hbl;unfold lastV;by_cases q:f=1
  · rw[if_pos q,if_pos (decide_eq_true q)];rfl
  · rw[if_neg q,if_neg (by rw[decide_eq_false q];decide)];rfl
 have HFin:=hid hfin;have HV:=hid (show ∀w',BlkV (lastV bl) (.returned (.bool bl)) w' from fun w'=>by cases bl<;>rfl);clear i1 k1 q1 hf hfin hbl;go_wp2_with fail;refine(rbits_w I1.out hs (z:=2) (n:=2) rfl (by decide)).mono ?_
 rintro en w2 ⟨k,e2,x2,rfl,hk,i2,k2,q2⟩;have hk4:k<4:=hk
 have hst:(e2=0∧bnd (body K k) (fun _=>pur (if f=1 then Sum.inr () else Sum.inl ())) s D L x2=R∧x.1≤x2.1)∨(e2≠0∧R=.error e2):=by
  rcases Q1.out with⟨rfl,_,q1⟩|⟨n1,q1,_⟩
  · rw[bnd_of q1] at hR
    rcases q2 with⟨rfl,_,q2⟩|⟨n2,q2,_⟩
    · rw[bnd_of q2] at hR
      have m1:=((Nice.bits 1).mono q1).1;have m2:=((Nice.bits 2).mono q2).1;exact .inl ⟨rfl,hR,by omega⟩
    · rw[bnd_er (q2 rfl)] at hR;exact .inr ⟨n2,hR.symm⟩
  · rw[bnd_er (q1 (by first|rfl|trivial))] at hR
    rcases q2 with⟨_,q,_⟩|⟨n2,_,q2⟩
    · exact absurd q n1
    · rw[q2 n1];exact .inr ⟨n1,hR.symm⟩
 have I2:=hid i2;have K2:=hid (kgg K1.out k2);obtain⟨cp2,c20,c21,c22,_⟩:=i2.cells;clear i2 k2 q2 hk hR I1 K1 Q1 c20 c21;rcases hst with⟨rfl,hR,hx2⟩|⟨ne2,hR⟩
 · have hK2:8*s.size - x2.1<K:=by omega
   have hc:k=0∨k=1∨k=2∨k=3:=by omega
   rcases hc with rfl|rfl|rfl|rfl
   · rw[show body K 0=stor from rfl] at hR
     go_wp2_with fail;refine(rstored_c I2.out hs (by omega)).mono ?_
     intro en w3 o;cases h3:stor s D L x2 with
     |error c=>
      rw[h3] at o;obtain⟨o1,o2,y,o3⟩:=o;unfold Rnone at o1;subst o1;rw[bnd_er h3] at hR;subst hR;have O3:=hid (Rres.trans (cgg K2.out) (.inl rfl) o3);clear h3 o3;go_wp2_with fail;go_ret;exact⟨⟨_,rfl⟩,o2,_,O3.out⟩
     |ok p=>
      rw[h3] at o;obtain⟨o1,o3⟩:=o;unfold Rnil at o1;subst o1;rw[bnd_of (a:=p.1) (y:=p.2) h3,HFin.out] at hR;subst hR;have O3:=hid (Rres.trans (cgg K2.out) (.inl rfl) o3);clear h3 o3;go_wp2_with fail;go_ret;exact⟨HV.out _,O3.out⟩
   · rw[show body K 1=syms K fx 288 (fun _=>5) 32 from rfl] at hR
     have hg2:=I2.out.glt;have hr2:=I2.out.rlt;have Br0:=hid (Br.made' w2 32);have I3:=hid (I2.out.same ((Kept.refl NoB w2).alloc (.cells (madeCells #[.int .u8 0] 32) 5)));have K3:=hid (K2.out.trans ((Kept.refl NoB w2).alloc (.cells (madeCells #[.int .u8 0] 32) 5)) (fun _ e=>e.elim));have S3:=hid (show w2.heap.size<(w2.alloc (.cells (madeCells #[.int .u8 0] 32) 5)).heap.size from Br0.out.lt);go_wp2_with fail;clear hmk;obtain⟨ob,hob⟩:∃ob,w2.heap.size=ob:=⟨_,rfl⟩
     rw[hob] at Br0 hg2 hr2 S3 ⊢;have hobg:ob≠g:=by omega
     have hobr:ob≠r:=by omega
     have hw0:=K2.out.size;rw[hob] at hw0;clear hob
     go_loopw [6] (fun i wx=> ∃j:Nat,j≤32∧i=.int .i64 j∧Br wx ob 32 (fun q=>if q<j then 5 else 0)∧Rin wx B g r s D L 0 x2∧Kept (fun j=>j=g) w wx) (fun i _=>32 - (intOf i).toNat)
     case atStart=>exact⟨0,by decide,rfl,Br0.out.congr (fun i _=>by rw[if_neg (by omega)]),I3.out,K3.out⟩
     case round=>
      obtain⟨j,hj,rfl,hbr,hi3,hk3⟩:=hrel;have HBr:=hid hbr;have HI3:=hid hi3;have HK3:=hid hk3;clear I3 K3 Br0 S3;by_cases hlt:j<32
      · have d1:decide ((j:Int)<32)=true:=decide_eq_true (by omega)
        have d1':decide (j<32)=true:=decide_eq_true hlt;have f3:=hbr.frozen j;have x3:=hbr.cell hlt
        have HN:=hid ((HBr.out.set j 5).congr (f':=fun q=>if q<j+1 then 5 else 0) (fun q hq=>by
         by_cases e:q=j
         · rw[if_pos e,if_pos (by omega)]
         · rw[if_neg e]
           by_cases e':q<j
           · rw[if_pos e',if_pos (by omega)]
           · rw[if_neg e',if_neg (by omega)]))
        have HIs:=hid (HI3.out.set_off (i:=j) (u:=.int .u8 ((5:Nat):Int)) hobg hobr);have HKs:=hid (HK3.out.setCell ⟨ob,j,none⟩ (.inr hw0) (.int .u8 ((5:Nat):Int)));clear hbr hi3 hk3;go_wp2_with fail;go_roundw
        case rel=>exact⟨j+1,by omega,by go_num,HN.out,HIs.out,HKs.out⟩
        case measure=>simp[intOf];omega
      · obtain rfl:j=32:=by omega
        have hbr5:Br wr ob 32 (fun _=>5):=HBr.out.congr (fun i hi=>by rw[if_pos hi]);have HBr5:=hid hbr5;clear hbr hi3 hk3 HBr hbr5
        go_wp2_with (go_at_call 41;(with_reducible refine(V.fixed_any _).mono ?_);rintro e w4 ⟨la,da,rfl,hla,hda,bla,bda,b4⟩
                     have Bla:=hid bla;have i4:=HI3.out.below b4;have k4:=HK3.out.trans (Kept.of_below b4) (fun _ e=>e.elim);have br4:=HBr5.out.below b4 HBr5.out.lt;have I4:=hid i4;have K4:=hid k4;have Br4:=hid br4;have Hla:=hid (show la≠g∧la≠r from⟨by have:=HI3.out.glt;omega,by have:=HI3.out.rlt;omega⟩);clear bla bda b4 i4 k4 br4 hla hda)
        have ka:=(Kept.refl NoB w4).alloc (.cells #[.slice (some ⟨la,0,none⟩) 288 288,.slice (some ⟨da,0,none⟩) 30 30] 77);have I5:=hid (I4.out.same ka);have K5:=hid (K4.out.trans ka (fun _ e=>e.elim));have A1:=hid (apn_br (f:=fx) (g:=g) (r:=r) (Bla.out.alloc (.cells #[.slice (some ⟨la,0,none⟩) 288 288,.slice (some ⟨da,0,none⟩) 30 30] 77)) Hla.out.1 Hla.out.2);have A2:=hid (apn_br (g:=g) (r:=r) (Br4.out.alloc (.cells #[.slice (some ⟨la,0,none⟩) 288 288,.slice (some ⟨da,0,none⟩) 30 30] 77)) hobg hobr);clear ka;refine(rsymbols_c I5.out hs hDL A1.out A2.out fx_15 (fun _=>by omega) tbl_fx tbl_fv (by decide) (by decide) hK2).mono ?_
        intro en w3 o;cases h3:syms K fx 288 (fun _=>5) 32 s D L x2 with
        |error c=>
         rw[h3] at o;obtain⟨o1,o2,y,o3⟩:=o;unfold Rnone at o1;subst o1;rw[bnd_er h3] at hR;subst hR;have O3:=hid (Rres.trans (cgg K5.out) (.inl rfl) o3);clear h3 o3;go_wp2_with fail;go_ret;exact⟨⟨_,rfl⟩,o2,_,O3.out⟩
        |ok p=>
         rw[h3] at o;obtain⟨o1,o3⟩:=o;unfold Rnil at o1;subst o1;rw[bnd_of (a:=p.1) (y:=p.2) h3,HFin.out] at hR;subst hR;have O3:=hid (Rres.trans (cgg K5.out) (.inl rfl) o3);clear h3 o3;go_wp2_with fail;go_ret;exact⟨HV.out _,O3.out⟩
   · rw[show body K 2=bnd (dyn K) fun t=>syms K (lit t.1) t.2.1 (dis t.1 t.2.1) t.2.2 from rfl,dyn_lens] at hR
     clear hmk;go_wp2_with fail;refine(rlens_c I2.out hs K hK2).mono ?_
     intro en w3 o;cases h3:lensR K s D L x2 with
     |error c=>
      rw[h3] at o;obtain⟨o1,hc0,y,i3,k3⟩:=o;subst o1;rw[bnd_er (bnd_er (bnd_er h3))] at hR;subst hR;have dn:((c:Int)==0)=false:=by rw[beq_eq_false_iff_ne];omega
      have HS:=hid (fun a b=>rsymbols_e i3.start hc0 a b);obtain⟨cp3,c30,c31,c32,_⟩:=i3.cells;have I3:=hid i3;have K3:=hid (kgg K2.out k3);have Hc0:=hid hc0;clear h3 i3 k3 c30 c31 hc0;go_wp2_with (go_at_call 73;(with_reducible refine(HS.out _ _).mono ?_);rintro e w4 ⟨rfl,rfl⟩);go_ret;exact⟨⟨_,rfl⟩,Hc0.out,y,cgg K3.out,r,.inl rfl,I3.out⟩
     |ok p=>
      obtain⟨⟨all,na,nb⟩,x3⟩:=p;rw[h3] at o;obtain⟨A1,c1,A2,c2,rfl,hc1,hc2,ap1,ap2,h255,i3,k3⟩:=o;simp only at hc1 hc2 ap1 ap2 h255 i3;obtain⟨hna1,hna,hnb,h256,hx3⟩:=lensR_ok h3;rw[bnd_assoc,bnd_assoc,bnd_of h3] at hR
      have hgd:∀i,all.getD i 0≤255:=fun i=>by
       by_cases q:i<all.length
       · rw[List.getD,List.getElem?_eq_getElem q];exact h255 _ (List.getElem_mem _)
       · rw[List.getD,List.getElem?_eq_none (by omega)];exact Nat.zero_le _
      have F1:=rfine_any (c:=c1) (w:=w3) ap1.nums (fun i=>hgd i) (by omega) false (fun _=>kind_some (i:=256) (by omega) h256);have F2:=rfine_any (c:=c2) (w:=w3) ap2.nums (fun i=>hgd (na+i)) (by omega) true (fun h=>by cases h);obtain⟨cp3,c30,c31,c32,_⟩:=i3.cells;have I3:=hid i3;have K3:=hid (kgg K2.out k3);have HF:=hid (rfail_r i3 162 162 rfl);have HS:=hid (fun(W:World) (o:Rres w3 B g r s D L 162 x3 W) a b=>rsymbols_e o (by decide) a b);by_cases t1:Tbl (lit all) na
      · rw[decide_eq_true t1] at F1
        by_cases t2:Tbl (dis all na) nb
        · rw[decide_eq_true t2] at F2
          have htb:tabs (all,na,nb) s D L x3=.ok ((all,na,nb),x3):=by
           unfold tabs;rw[if_neg (fun h=>h.elim (fun h=>h t1) (fun h=>h t2))];rfl
          rw[bnd_of htb] at hR;have HSy:=hid (rsymbols_c i3 hs hDL ap1 ap2 (fun i=>hgd i) (fun i=>hgd (na+i)) t1 t2 hc1 hc2 (K:=K) (by omega));have F1:=hid F1;have F2:=hid F2;clear h3 i3 k3 c30 c31 ap1 ap2 h255 hgd h256 t1 t2 HF HS htb
          go_wp2_with (first
           |(go_at_call 75;(with_reducible refine F1.out.mono ?_);rintro e w4 ⟨rfl,rfl⟩)
           |(go_at_call 75;(with_reducible refine F2.out.mono ?_);rintro e w5 ⟨rfl,rfl⟩))
          refine HSy.out.mono ?_
          intro en w6 o;cases h3:syms K (lit all) na (dis all na) nb s D L x3 with
          |error c=>
           rw[h3] at o;obtain⟨o1,o2,y,o3⟩:=o;unfold Rnone at o1;subst o1;rw[bnd_er h3] at hR;subst hR;have O3:=hid (Rres.trans (cgg K3.out) (.inl rfl) o3);clear h3 o3;go_wp2_with fail;go_ret;exact⟨⟨_,rfl⟩,o2,_,O3.out⟩
          |ok p=>
           rw[h3] at o;obtain⟨o1,o3⟩:=o;unfold Rnil at o1;subst o1;rw[bnd_of (a:=p.1) (y:=p.2) h3,HFin.out] at hR;subst hR;have O3:=hid (Rres.trans (cgg K3.out) (.inl rfl) o3);clear h3 o3;go_wp2_with fail;go_ret;exact⟨HV.out _,O3.out⟩
        · rw[decide_eq_false t2] at F2
          have htb:tabs (all,na,nb) s D L x3=.error 162:=by
           unfold tabs;rw[if_pos (.inr t2)];rfl
          rw[bnd_er htb] at hR;subst hR;have F1:=hid F1;have F2:=hid F2;clear h3 i3 k3 c30 c31 ap1 ap2 h255 hgd h256 t1 t2 htb
          go_wp2_with (first
           |(go_at_call 75;(with_reducible refine F1.out.mono ?_);rintro e w4 ⟨rfl,rfl⟩)
           |(go_at_call 75;(with_reducible refine F2.out.mono ?_);rintro e w5 ⟨rfl,rfl⟩)
           |(go_at_call 76;(with_reducible refine HF.out.mono ?_);rintro e w6 ⟨rfl,o6⟩;have O6:=hid o6;clear o6)
           |(go_at_call 73;(with_reducible refine(HS.out _ O6.out _ _).mono ?_);rintro e w7 ⟨rfl,rfl⟩))
          go_ret;exact⟨⟨_,rfl⟩,by decide,x3,Rres.trans (cgg K3.out) (.inl rfl) O6.out⟩
      · rw[decide_eq_false t1] at F1
        have htb:tabs (all,na,nb) s D L x3=.error 162:=by
         unfold tabs;rw[if_pos (.inl t1)];rfl
        rw[bnd_er htb] at hR;subst hR;have F1:=hid F1;clear h3 i3 k3 c30 c31 ap1 ap2 h255 hgd h256 t1 htb F2
        go_wp2_with (first
         |(go_at_call 75;(with_reducible refine F1.out.mono ?_);rintro e w4 ⟨rfl,rfl⟩)
         |(go_at_call 76;(with_reducible refine HF.out.mono ?_);rintro e w6 ⟨rfl,o6⟩;have O6:=hid o6;clear o6)
         |(go_at_call 73;(with_reducible refine(HS.out _ O6.out _ _).mono ?_);rintro e w7 ⟨rfl,rfl⟩))
        go_ret;exact⟨⟨_,rfl⟩,by decide,x3,Rres.trans (cgg K3.out) (.inl rfl) O6.out⟩
   · have HF:=hid (rfail_r I2.out 160 160 rfl)
     rw[bnd_er (show body K 3 s D L x2=.error 160 from rfl)] at hR;subst hR;go_wp2_with (go_at_call 76;(with_reducible refine HF.out.mono ?_);rintro e w3 ⟨rfl,o3⟩;have O3:=hid (Rres.trans (cgg K2.out) (.inl rfl) o3);clear o3);go_ret;exact⟨⟨_,rfl⟩,by decide,_,O3.out⟩
 · subst hR
   have dp:((e2:Int) !=0)=true:=by rw[bne_iff_ne];omega
   go_wp2_with fail;go_ret;exact⟨⟨_,rfl⟩,ne2,x2,cgg K2.out,r,.inl rfl,I2.out⟩
end
section
variable {w W:World} {B g r D L e:Nat} {s:ByteArray} {x:St}
theorem Rres.block(o:Rres w B g r s D L 0 x W)(hs:s.size≤100000)(hDL:D+L≤900000000)(K:Nat)(hK:8*s.size - x.1<K):
 Calls Tryz.prog 46 #[.pointer (some ⟨g,0,none⟩)] W (Rout w B g r s D L (blk K () s D L x) BlkV Rany):=o.lift fun r1 _ i=>rblock_c i hs hDL K hK
set_option maxHeartbeats 8000000 in
theorem rinflate_any(d s:ByteArray)(L K:Nat)(w:World)(hd:d.size≤32768)(hs:s.size≤100000)(hL:L≤800000000)(hK:8*s.size<K):
 Calls Tryz.prog 22 #[.string d,.string s,.int .i64 L] w fun e w'=>e=ansE (inf K s d.size L (0,d.data.toList)) d.size∧Below w.heap.size w w':=by
 have hdl:d.data.toList.length=d.size:=Array.length_toList;obtain⟨F,hF⟩:∃F,inf K s d.size L (0,d.data.toList)=F:=⟨_,rfl⟩
 rw[hF];unfold inf at hF;have d0:decide ((L:Int)<0)=false:=decide_eq_false (by omega);have d1:decide (32768<(d.size:Int))=false:=decide_eq_false (by omega);have d1':decide (32768<d.size)=false:=decide_eq_false (by omega);obtain⟨cp,w3,hc3,y3,b3,s3⟩:=run_by w d (by omega);obtain⟨r,hr⟩:∃r,w.heap.size=r:=⟨_,rfl⟩
 rw[hr] at hc3 y3 b3 s3 ⊢;have hnew:(w3.alloc (.cells #[.string s,.int .i64 0,.int .i64 0,.slice (some ⟨r,0,none⟩) d.size cp,.int .i64 (d.size:Int),.int .i64 (L:Int)] 87)).heap[r+1]? =some (.cells #[.string s,.int .i64 0,.int .i64 0,.slice (some ⟨r,0,none⟩) d.size cp,.int .i64 (d.size:Int),.int .i64 (L:Int)] 87 (0,0)):=by rw[←s3];exact heap_alloc_new _ _
 have hkA:Kept NoB w3 (w3.alloc (.cells #[.string s,.int .i64 0,.int .i64 0,.slice (some ⟨r,0,none⟩) d.size cp,.int .i64 (d.size:Int),.int .i64 (L:Int)] 87)):=(Kept.refl _ _).alloc _;obtain⟨w4,hw4⟩:∃w4,w3.alloc (.cells #[.string s,.int .i64 0,.int .i64 0,.slice (some ⟨r,0,none⟩) d.size cp,.int .i64 (d.size:Int),.int .i64 (L:Int)] 87)=w4:=⟨_,rfl⟩
 rw[hw4] at hnew hkA
 have hI4:Rin w4 r (r+1) r s d.size L 0 (0,d.data.toList):=by
  refine⟨by omega,Nat.le_refl _,⟨cp,?_,y3.kept hkA (fun e=>e)⟩,by simp only;omega,by simp only;omega,Nat.zero_le _⟩;simp only[hdl];exact hnew
 have hb4:Below r w w4:=b3.trans (hkA.below (B:=r) (by rw[s3];omega) (fun _ e=>e.elim));have HI4:=hid hI4;have HB4:=hid (fun(W:World) (hk:Kept (Cg (r+1) r) w4 W)=>(show Below r w W from hb4.trans (hk.below (by have:=hI4.rlt;omega) (fun j e=>by rcases e with e|e<;>omega))));have HF:=hid hF;have HW4:=hid hw4;clear hnew hkA hI4 hb4 y3 b3 hF hw4 hr;go_enter Tryz.func22,Tryz.ntmps22;go_wp2_with fail;rw[HW4.out];clear hc3
 go_loopw [28] (fun _ wr=>(∃k x',Rres w4 r (r+1) r s d.size L 0 x' wr∧8*s.size - x'.1<k∧loopR (blk K) k () s d.size L x'=F)∨(∃c y,F=.error c∧c≠0∧Rres w4 r (r+1) r s d.size L c y wr)) (fun _ wr=>rms (r+1) (8*s.size) wr)
 case atStart=>exact .inl ⟨K,_,HI4.out.start,by simp only;omega,HF.out⟩
 case round=>
  clear HF HI4 HW4 s3;rcases hrel with⟨k,x',hS,hk,hFk⟩|⟨c,y,hFc,hc0,hS⟩
  · obtain⟨k,rfl⟩:∃j,k=j+1:=⟨k - 1,by omega⟩
    have hal:=hS.al;have hms:=hS.rms_0 (8*s.size);obtain⟨e0,e1,e2,ef⟩:=hS.cells;have HBk:=hid (hS.block hs (by omega) K (by omega));have HMs:=hid hms;clear hS e0 e1 ef hms;go_wp2_with fail;refine HBk.out.mono ?_
    intro e w5 o;cases hb:blk K () s d.size L x' with
    |error c=>
     rw[hb] at o;obtain⟨⟨b,o1⟩,hc0,y,o3⟩:=o;subst o1;obtain rfl:F=.error c:=by rw[←hFk];exact loop_no hb
     obtain⟨d0',d1'',d2,df⟩:=o3.cells;have dp:((c:Int) !=0)=true:=by rw[bne_iff_ne];omega
     have O3:=hid o3;have Hc0:=hid hc0;clear hb hFk hk o3 hc0 d0' d1'' df HBk;cases b with
     |true=>
      go_wp2_with fail
      go_quiet (fail)
      go_wp2_with fail;go_ret3;exact⟨rfl,HB4.out _ (O3.out.kept.drewN _)⟩
     |false=>
      go_wp2_with fail;go_roundw
      case rel=>exact .inr ⟨c,y,rfl,Hc0.out,O3.out⟩
      case measure=>rw[O3.out.rms_e Hc0.out,HMs.out];omega
    |ok p=>
     obtain⟨u,x2⟩:=p;rw[hb] at o;obtain⟨o1,o3⟩:=o;unfold BlkV at o1;obtain⟨m1,m2⟩:=blk_mono hb hal;cases u with
     |inl u=>
      simp only at o1;subst o1;have HG:=hid ((loop_go (k:=k) hb).symm.trans hFk);have O3:=hid o3;have hkk:8*s.size - x2.1<k:=by omega
      clear hb hFk o3 HBk;go_wp2_with fail;go_roundw
      case rel=>exact .inl ⟨k,x2,O3.out,hkk,HG.out⟩
      case measure=>rw[O3.out.rms_0,HMs.out];omega
     |inr u=>
      simp only at o1;subst o1;have hG:=(loop_end (k:=k) hb).symm.trans hFk;have hE:F=.ok ((),x2):=hG.symm;subst hE;obtain⟨d0',d1'',d2,df⟩:=o3.cells;obtain⟨r5,cp5,k3,hy⟩:=o3.out;have hdN:=o3.dl;have hll5:=o3.ll;have hxs:=o3.al;have hcp:x2.2.length≤cp5:=hy.rb.nc;have hyd:Ry w5.drew r5 cp5 x2.2:=hy.of_block rfl;have hKd:=o3.kept;obtain⟨a,ha⟩:∃a,x2.1=a:=⟨_,rfl⟩
      obtain⟨U,hU⟩:∃U,(a+7) /8=U:=⟨_,rfl⟩
      have HR:ansE (.ok ((),x2)) d.size=.returned (.tuple #[.string ⟨(x2.2.drop d.size).toArray⟩,.int .i64 (U:Int),.int .i64 0]):=by rw[←hU,←ha];rfl
      have HRr:=hid HR;rw[ha] at d1'' hxs;have t1:((a:Int)+7).tdiv 8=(U:Int):=by rw[Int.tdiv_eq_ediv_of_nonneg (by omega)];omega
      have t2:IntKind.i64.wrap ((a:Int)+7)=(a:Int)+7:=IntWalk.i64_in _ ⟨by omega,by omega⟩;have hwU:IntKind.i64.wrap (U:Int)=(U:Int):=IntWalk.i64_in _ ⟨by omega,by omega⟩;have hwU':wrap64 (U:Int)=(U:Int):=IntWalk.wrap64_in _ ⟨by omega,by omega⟩;obtain⟨N,hN⟩:∃N,x2.2.length=N:=⟨_,rfl⟩
      rw[hN] at k3 hdN hcp;have HBb:=hid (HB4.out _ hKd);clear hb hFk o3 HBk hG hy ha hU HR df d0' hKd;by_cases hcq:cp5=d.size
      · have hND:N=d.size:=by omega
        have hc:=V.Tx.conv_rb hyd.rb d.size d.size (hN.trans hND) (Nat.le_refl _) ⟨r5,0,none⟩ (c:=0) (fun e=>absurd e (by omega));rw[Nat.sub_self] at hc;rw[hND,hcq] at k3;clear hyd hcq;go_wp2_with fail
        go_region
        all_goals go_wp2_with fail
        all_goals go_ret3
        all_goals
         refine⟨?_,HBb.out.drew⟩;rw[HRr.out];rfl
      · have hc:=V.Tx.conv_rb hyd.rb d.size N hN (by omega) ⟨r5,d.size,none⟩ (c:=cp5 - d.size) (fun e=>rfl)
        have hcq':¬d.size=cp5:=fun e=>hcq e.symm
        clear hyd;go_wp2_with fail
        go_region
        all_goals go_wp2_with fail
        all_goals go_ret3
        all_goals
         refine⟨?_,HBb.out.drew⟩;rw[HRr.out];rfl
  · obtain⟨e0,e1,e2,ef⟩:=hS.cells
    have d2:((c:Int)==0)=false:=by rw[beq_eq_false_iff_ne];omega
    have d3:((c:Int) !=0)=true:=by rw[bne_iff_ne];omega
    have HS:=hid hS;clear hS e0 e1 ef;go_wp2_with fail
    go_quiet (fail)
    go_wp2_with fail;go_ret3;rw[hFc];exact⟨rfl,HB4.out _ (HS.out.kept.drewN _)⟩
end
theorem Ry.at_{w:World}{g cp i u:Nat}{bs:List UInt8}(h:Ry w g cp bs)(hi:i<bs.length)(hu:u≤255):Ry (w.setCell ⟨g,i,none⟩ (.int .u8 (u:Int))) g cp (bs.set i (UInt8.ofNat u)):=by
 have hc:∀j,j≠i→(w.setCell ⟨g,i,none⟩ (.int .u8 (u:Int))).cell? ⟨g,j,none⟩=w.cell? ⟨g,j,none⟩:=fun j hj=>World.cell?_setCell_other w _ _ _ (fun q=>hj (by injection q with _ q _;exact q.symm))
 have hs:(w.setCell ⟨g,i,none⟩ (.int .u8 (u:Int))).cell? ⟨g,i,none⟩=some (.int .u8 (u:Int)):=World.cell?_setCell_same' _ _ _ (h.room i (Nat.lt_of_lt_of_le hi h.nc));refine⟨by rw[List.length_set];exact h.nc,fun j hj=> ?_,fun j hj=>by rw[World.frozen?_setCell];exact h.free j hj,fun j v hv=> ?_,?_⟩
 · by_cases q:j=i
   · subst q;rw[hs];rfl
   · rw[hc j q];exact h.room j hj
 · by_cases q:j=i
   · subst q
     rw[List.getElem?_set_self hi] at hv;cases hv
     rw[hs,UInt8.toNat_ofNat'];congr 2;omega
   · rw[List.getElem?_set_ne (by omega)] at hv
     rw[hc j q];exact h.byte j v hv
 · obtain⟨c,fz,e⟩:=h.typ
   exact⟨_,fz,by rw[setCell_eq_setRow w g i _ _ _ _ e];exact setRow_heap w g c _ _ _ e⟩
theorem same16{T:World→Prop}(C:Ifs T)(d s:ByteArray)(L:Nat)(w:World)(H:T w)(hd:d.size≤32768)(hs:s.size≤100000)(hL:L≤800000000):
 Calls Tryz.prog 10 #[.string d,.string s,.int .i64 (L:Int)] w fun e w'=>e=.returned (.bool true)∧Below w.heap.size w w':=by
 have h1:=C.yes d s L w H hd hs hL;have h2:=fun w=>rinflate_any d s L 1000000 w hd hs hL (by omega)
 unfold ansE at h1 h2;obtain⟨X,hX⟩:∃X:ByteArray,(⟨(ans (inf 1000000 s d.size L (0,d.data.toList)) d.size).1.toArray⟩:ByteArray)=X:=⟨_,rfl⟩
 obtain⟨u,hu⟩:∃u,(ans (inf 1000000 s d.size L (0,d.data.toList)) d.size).2.1=u:=⟨_,rfl⟩
 obtain⟨c,hc⟩:∃c,(ans (inf 1000000 s d.size L (0,d.data.toList)) d.size).2.2=c:=⟨_,rfl⟩
 rw[hX,hu,hc] at h1;simp only[hX,hu,hc] at h2;have H1:=hid h1;have H2:=hid h2;clear h1 h2 hX hu hc C H;go_enter Tryz.func10,Tryz.ntmps10
 go_wp2_with (first
  |(go_at_call 17;(with_reducible refine H1.out.mono ?_);rintro e w1 ⟨rfl,b1⟩;have B1:=hid b1;clear b1)
  |(go_at_call 22;(with_reducible refine(H2.out _).mono ?_);rintro e w2 ⟨rfl,b2⟩;have B2:=hid (B1.out.trans (b2.mono B1.out.size));clear b2))
 go_ret;exact⟨rfl,B2.out⟩
set_option maxHeartbeats 4000000 in
theorem ispoilt_law{T:World→Prop}(C:Ifs T)(d t:ByteArray)(lv lim:Nat)(A1 A2:Option Addr)(n1 c1 n2 c2:Nat)(f1 f2:Nat→Nat)(W:World)(H:T W)(hlv:lv≤255)(hlim:lim≤65535)(N1:Nums W .u16 A1 n1 (fun i=>(f1 i:Int)))(N2:Nums W .u8 A2 n2 (fun i=>(f2 i:Int)))(b1:∀i,f1 i≤65535)(b2:∀i,f2 i≤255)(m1:n1≤maxLen)(m2:n2≤maxLen):
 Calls Tryz.prog 3 #[.string d,.string t,.int .u8 lv,.slice A1 n1 c1,.slice A2 n2 c2,.int .u16 lim] W fun e w'=>e=.returned (.bool true)∧Below W.heap.size W w':=by
 have m1':n1≤9223372036854775807:=by unfold maxLen at m1;omega
 have m2':n2≤9223372036854775807:=by unfold maxLen at m2;omega
 have HW:=hid (fun(w:World) (b:Below W.heap.size W w)=>works16 C w (C.keep H b));have HH:=hid (fun(w:World)=>heavy16_any d t w);obtain⟨bq,hbq⟩:∃b,decide (4096<d.size∨1024<t.size)=b:=⟨_,rfl⟩
 rw[hbq] at HH;obtain⟨br,hbr⟩:∃b,decide (8<n1)=b:=⟨_,rfl⟩
 have hbr':decide ((8:Int)<(n1:Int))=br:=by rw[←hbr];exact decide_eq_decide.2 (by omega)
 by_cases hc:bq=true∨br=true
 · clear H hbq N1 N2
   cases bq<;>cases br<;>first
    |exact absurd hc (by decide)
    |(clear hc
      go_enter Tryz.func3,Tryz.ntmps3
      go_wp2_with (first
       |(go_at_call 7;(with_reducible refine(HH.out _).mono ?_);rintro e w1 ⟨rfl,rfl⟩)
       |(go_at_call 8;(with_reducible refine(HW.out _ (Below.refl _ _)).mono ?_);rintro e w5 ⟨rfl,b5⟩;have B5:=hid b5;clear b5))
      go_ret;exact⟨rfl,B5.out⟩)
 · obtain rfl:bq=false:=by cases bq<;>simp_all
   obtain rfl:br=false:=by cases br<;>simp_all
   have hd:d.size≤4096:=by have:=of_decide_eq_false hbq;omega
   have ht:t.size≤1024:=by have:=of_decide_eq_false hbq;omega
   have hn1:n1≤8:=by have:=of_decide_eq_false hbr;omega
   obtain⟨k,hk⟩:∃k,lv%10=k:=⟨_,rfl⟩
   have hk2:(lv:Int)%10=(k:Int):=by omega
   have hk3:Int.tmod (lv:Int) 10=(k:Int):=by rw[Int.tmod_eq_emod_of_nonneg (by omega)];exact hk2
   have hk4:k≤9:=by omega
   have hk5:IntKind.i64.wrap (k:Int)=(k:Int):=IntWalk.i64_in _ (by omega);have hk6:IntKind.u8.wrap (k:Int)=(k:Int):=by simp[IntKind.wrap,IntKind.bits,IntKind.signed];omega
   obtain⟨l,hl⟩:∃l,lim%8000=l:=⟨_,rfl⟩
   have hl2:(lim:Int)%8000=(l:Int):=by omega
   have hl3:Int.tmod (lim:Int) 8000=(l:Int):=by rw[Int.tmod_eq_emod_of_nonneg (by omega)];exact hl2
   have hl4:l≤8000:=by omega
   have hl5:IntKind.i64.wrap (l:Int)=(l:Int):=IntWalk.i64_in _ (by omega);have hl6:IntKind.u16.wrap (l:Int)=(l:Int):=by simp[IntKind.wrap,IntKind.bits,IntKind.signed];omega
   have HDR:=fun(w:World)=>(show Calls Tryz.prog 9 #[.string d,.string t,.int .i64 k,.int .i64 4096] w (V.DR w d t k 4096) from by
    by_cases h0:k=0
    · subst h0;exact V.rdeflate_zero d t 4096 w (by omega)
    · exact V.rdeflate_some d t k 4096 w (by omega) (by omega) (by omega))
   have hsh:=V.dby_short d t k (by omega);have hds:=V.dby_size d t k;clear hk hl hbq hc hbr;by_cases hsz:((V.dbs d t k).length+7) /8≤4096
   · have HD:=hid (fun(w:World)=>(HDR w).mono fun e w' h=>(show e=.returned (.tuple #[.string (V.dby d t k),.int .i64 0])∧Below w.heap.size w w' from⟨h.2.1 (by omega),h.1⟩))
     obtain⟨X,hX⟩:∃X,V.dby d t k=X:=⟨_,rfl⟩
     rw[hX] at hsh hds;simp only[hX] at HD;have hX1:1≤X.size∧X.size≤4096:=by omega
     have hXl:X.data.toList.length=X.size:=Array.length_toList;obtain⟨n,hn⟩:∃n,X.size=n:=⟨_,rfl⟩
     have HBy:=hid (fun(w:World)=>run_by w X (by omega));have HSm:=hid (fun(w:World) (b:Below W.heap.size W w) (s:ByteArray) (hs:s.size≤100000)=>same16 C d s l w (C.keep H b) (by omega) hs (by omega));rw[hn] at hX1 hXl;simp only[hn] at HBy;clear HDR hsh hds hX hsz H hn;go_enter Tryz.func3,Tryz.ntmps3
     go_wp2_with (first
      |(go_at_call 7;(with_reducible refine(HH.out _).mono ?_);rintro e w1 ⟨rfl,rfl⟩)
      |(go_at_call 9;(with_reducible refine(HD.out _).mono ?_);rintro e w2 ⟨rfl,bb2⟩;obtain⟨cp,w3,hc3,y3,b3,s3⟩:=HBy.out w2;have Y3:=hid y3;have B3:=hid (bb2.trans (b3.mono bb2.size));have G3:=hid bb2.size;clear y3 b3 bb2))
     obtain⟨r,hr⟩:∃r,w2.heap.size=r:=⟨_,rfl⟩
     rw[hr] at Y3 G3 ⊢;have hrW:W.heap.size≤r:=G3.out;clear hc3 HBy HD HH s3 hr G3
     go_loopw [16] (fun i wr=> ∃ (j:Nat) (bs:List UInt8),j≤n1∧i=.int .i64 j∧bs.length=n∧Ry wr r cp bs∧Below W.heap.size W wr) (fun i _=>n1 - (intOf i).toNat)
     case atStart=>exact⟨0,_,Nat.zero_le _,rfl,hXl,Y3.out,B3.out⟩
     case round=>
      obtain⟨j,bs,hj,rfl,hbs,hy,hb⟩:=hrel;clear Y3 B3;have d9:decide ((0:Int)<(n:Int))=true:=decide_eq_true (by omega);have d9':decide (0<n)=true:=decide_eq_true (by omega);by_cases hlt:j<n1∧j<n2
      · obtain⟨l1,l2⟩:=hlt
        have d1:decide ((j:Int)<(n1:Int))=true:=decide_eq_true (by omega);have d1':decide (j<n1)=true:=decide_eq_true l1;have d2:decide ((j:Int)<(n2:Int))=true:=decide_eq_true (by omega);have d2':decide (j<n2)=true:=decide_eq_true l2;obtain⟨g1,o1,rfl,e1,e2⟩:=N1 (by omega);obtain⟨g2,o2,rfl,e3,e4⟩:=N2 (by omega);have k1:=(hb.cell e1).trans (e2 j l1);have k2:=(hb.cell e3).trans (e4 j l2);simp only at k1 k2;have z1:=b1 j;have z2:=b2 j;obtain⟨z,hz⟩:∃z,f1 j=z:=⟨_,rfl⟩
        obtain⟨u,hu⟩:∃u,f2 j=u:=⟨_,rfl⟩
        rw[hz] at k1 z1;rw[hu] at k2 z2;obtain⟨q,hq⟩:∃q,z%n=q:=⟨_,rfl⟩
        have hqn:q<n:=by rw[←hq];exact Nat.mod_lt _ (by omega)
        have q1:Int.tmod (z:Int) (n:Int)=(q:Int):=by rw[Int.tmod_eq_emod_of_nonneg (by omega),←hq];exact(Int.natCast_emod _ _).symm
        have q2:(z:Int)%(n:Int)=(q:Int):=by rw[←hq];exact(Int.natCast_emod _ _).symm
        have q3:IntKind.i64.wrap (z:Int)=(z:Int):=IntWalk.i64_in _ (by omega);have q4:IntKind.i64.wrap (q:Int)=(q:Int):=IntWalk.i64_in _ (by omega);have n0:((n:Int)==0)=false:=by rw[beq_eq_false_iff_ne];omega
        have n0':(n==0)=false:=by rw[beq_eq_false_iff_ne];omega
        have n0'':decide (n=0)=false:=decide_eq_false (by omega);have hnc:=hy.nc;rw[hbs] at hnc;obtain⟨v0,k3⟩:∃v0,wr.cell? ⟨r,q,none⟩=some v0:=⟨_,hy.byte q _ (List.getElem?_eq_getElem (by omega:q<bs.length))⟩
        have k4:=hy.free q (by omega);have HY:=hid (hy.at_ (i:=q) (u:=u) (by omega) z2);have HBl:=hid (hb.setCell (p:=⟨r,q,none⟩) hrW (.int .u8 (u:Int)));have Hbs:=hid hbs;clear hy hb hz hu hq e2 e4 hbs;go_wp2_with fail
        go_region
        all_goals go_wp2_with fail
        all_goals
         go_roundw
         case rel=>exact⟨j+1,bs.set q (UInt8.ofNat u),by omega,by go_num,by rw[List.length_set];exact Hbs.out,HY.out.of_block rfl,HBl.out.drew⟩
         case measure=>(simp[intOf];omega)
      · obtain⟨x1,hx1⟩:∃b,decide (j<n1)=b:=⟨_,rfl⟩
        obtain⟨x2,hx2⟩:∃b,decide (j<n2)=b:=⟨_,rfl⟩
        have hx3:(x1&&x2)=false:=by rw[←hx1,←hx2,Bool.and_eq_false_iff,decide_eq_false_iff_not,decide_eq_false_iff_not];omega
        have hx1':decide ((j:Int)<(n1:Int))=x1:=by rw[←hx1];exact decide_eq_decide.2 (by omega)
        have hx2':decide ((j:Int)<(n2:Int))=x2:=by rw[←hx2];exact decide_eq_decide.2 (by omega)
        have hcv:=V.Tx.conv_rb hy.rb 0 n hbs (Nat.zero_le _) ⟨r,0,none⟩ (c:=cp) (fun _=>rfl);rw[Nat.sub_zero] at hcv
        have hSz:(⟨(bs.drop 0).toArray⟩:ByteArray).size=n:=by
         show(bs.drop 0).toArray.size=n
         simp[hbs]
        obtain⟨S,hS⟩:∃S:ByteArray,(⟨(bs.drop 0).toArray⟩:ByteArray)=S:=⟨_,rfl⟩
        rw[hS] at hcv hSz;have HS:=hid (HSm.out wr hb S (by omega));have HBl:=hid hb;clear hy hb hS hbs hlt N1 N2
        cases x1<;>cases x2<;>first
         |exact absurd hx3 (by decide)
         |(go_wp2_with (first
          |(go_at_call 10;(with_reducible refine HS.out.mono ?_);rintro e w4 ⟨rfl,b4⟩;have B4:=hid (HBl.out.trans (b4.mono HBl.out.size));clear b4)
          |(go_at_call 8;(with_reducible refine(HW.out _ B4.out).mono ?_);rintro e w5 ⟨rfl,b5⟩;have B5:=hid (B4.out.trans (b5.mono B4.out.size));clear b5))
           go_ret;exact⟨rfl,B5.out⟩)
   · have HD:=hid (fun(w:World)=>(HDR w).mono fun e w' h=>(show e=.returned (.tuple #[.string ⟨#[]⟩,.int .i64 4])∧Below w.heap.size w w' from⟨h.2.2 (by omega),h.1⟩))
     clear HDR hsh hds hsz H N1 N2;go_enter Tryz.func3,Tryz.ntmps3
     go_wp2_with (first
      |(go_at_call 7;(with_reducible refine(HH.out _).mono ?_);rintro e w1 ⟨rfl,rfl⟩)
      |(go_at_call 9;(with_reducible refine(HD.out _).mono ?_);rintro e w2 ⟨rfl,bb2⟩;have B2:=hid bb2;clear bb2)
      |(go_at_call 8;(with_reducible refine(HW.out _ B2.out).mono ?_);rintro e w5 ⟨rfl,b5⟩;have B5:=hid (B2.out.trans (b5.mono B2.out.size));clear b5))
     go_ret;exact⟨rfl,B5.out⟩
end Go.Proofs.YtdpabanajgegjaaGreatDoor.I
