/- Texts of one place, one behind the other: IfU, IfV, IfW, IfX. -/
import Derived.Test.YtdpabanajgegjaaGreatDoorEIfT
import Derived.Test.YtdpabanajgegjaaGreatDoorETbs
set_option maxRecDepth 1000000
set_option linter.unusedVariables false
set_option linter.unusedSimpArgs false
namespace Go.Proofs.YtdpabanajgegjaaGreatDoor.I
open Go.Lib (hid)
open Go Go.RowKit M
def TB(B:Nat)(w:World):Prop:=∀w',Below B w w'→V.Tabs w'
theorem TB.here{B:Nat}{w:World}(h:TB B w):V.Tabs w:=h w (Below.refl _ _)
theorem TB.go{B:Nat}{w w':World}(h:TB B w)(hb:Below B w w'):TB B w':=fun w'' b=>h w'' (hb.trans b)
section
variable {w:World} {B g q r D L:Nat} {s:ByteArray} {x:St}
theorem In.bl(h:In w B g q r s D L x){w':World}(hk:Kept (Ch g q r) w w'):Below B w w':=
 hk.below (by have:=h.gb;have:=h.glt;omega) fun j hj=>by
  rcases hj with e|e|e
  · rw[e];exact h.gb
  · rw[e];exact h.rd.base
  · rw[e];exact h.rb
theorem In.tbs(h:In w B g q r s D L x){w':World}(hb:Below w.heap.size w w'):Below B w w':=hb.mono (by have:=h.gb;have:=h.glt;omega)
def numR(bz:Nat)(v:Nat→Nat):Rm Nat:=bnd (bits bz) fun e=>if v e=0 then fl 163 else pur (v e)
set_option maxHeartbeats 2000000 in
theorem lnum_c(h:In w B g q r s D L x)(hs:s.size≤100000)(ht:TB B w)(y bz:Nat)(b1:Bool)(v:Nat→Nat)(hbz:bz≤13)(hv:∀e,v e≤32768)
 (hb:∀w',V.Tabs w'→Calls Tryz.prog 136 #[.int .i64 y] w' fun e w2=>e=.returned (.tuple #[.int .i64 bz,.bool b1])∧Below w'.heap.size w' w2)
 (ho:∀e w',V.Tabs w'→Calls Tryz.prog 137 #[.int .i64 y,.int .u32 (e:Nat)] w' fun z w2=>z=.returned (.tuple #[.int .i64 (v e:Nat),.bool (decide (0<v e))])∧Below w'.heap.size w' w2):
 Calls Tryz.prog 135 #[.pointer (some ⟨g,0,none⟩),.int .i64 y,.func (.func 136) #[] #[],.func (.func 137) #[] #[]] w (Out w B g q r s D L (numR bz v s D L x) Int64):=by
 have HI:=hid h;have HT:=hid (fun(w':World) (hb:Below B w w')=>(show V.Tabs w' from ht w' hb));have HB:=hid (hb w ht.here);have HN:=hid (fun(w':World) (hw:In w' B g q r s D L x)=>bits_c hw hs bz (by omega));by_cases hf:x.1+bz≤8*s.size
 · have e:bits bz s D L x=.ok (M.nb s x.1 bz,(x.1+bz,x.2)):=by unfold bits;rw[if_pos hf]
   rw[e] at HN
   have hlt:M.nb s x.1 bz≤8191:=by
    have h1:=M.nb_lt s x.1 bz;have h2:2^bz≤2^13:=Nat.pow_le_pow_right (by decide) hbz;omega
   have er:numR bz v s D L x=if v (M.nb s x.1 bz)=0 then .error 163 else .ok (v (M.nb s x.1 bz),(x.1+bz,x.2)):=by
    unfold numR;rw[bnd_of e]
    split<;>rfl
   rw[er];obtain⟨z,hz⟩:∃z,M.nb s x.1 bz=z:=⟨_,rfl⟩
   rw[hz] at HN hlt ⊢;have hvz:=hv z;have HO:=hid (fun w' hw=>ho z w' hw);obtain⟨k,hk⟩:∃k,v z=k:=⟨_,rfl⟩
   rw[hk] at HO hvz ⊢;by_cases hk0:k=0
   · subst hk0
     rw[if_pos rfl];have HO':=hid (show ∀w',V.Tabs w'→Calls Tryz.prog 137 #[.int .i64 y,.int .u32 (z:Nat)] w' fun z w2=>z=.returned (.tuple #[.int .i64 0,.bool false])∧Below w'.heap.size w' w2 from HO.out);clear h ht hb ho e er hf hz hk HO hv;go_enter Tryz.func135,Tryz.ntmps135
     go_wp2_with (first
      |(go_at_call 136;(with_reducible refine HB.out.mono ?_);rintro e w1 ⟨rfl,b1⟩;have B1:=hid b1;clear b1)
      |(go_at_call 87;(with_reducible refine(HN.out _ (HI.out.below B1.out)).mono ?_);rintro e w2 ⟨q1,q2⟩;unfold Int64 at q1;subst q1;have Q2:=hid q2;clear q2)
      |(go_at_call 137;(with_reducible refine(HO'.out _ (HT.out _ ((HI.out.tbs B1.out).trans ((HI.out.below B1.out).bl Q2.out.kept)))).mono ?_);rintro e w3 ⟨rfl,b3⟩;have B3:=hid b3;clear b3)
      |(go_at_call 92;(with_reducible refine(fail_163 _).mono ?_);rintro e w4 ⟨rfl,k4⟩;have K4:=hid k4;clear k4))
     exact⟨rfl,rfl,((((Kept.of_below B1.out).none _).trans Q2.out.kept (fun _ e=> .inl e)).trans (Kept.of_below B3.out) (fun _ e=>e.elim)).trans K4.out (fun _ e=>e.elim)⟩
   · rw[if_neg hk0]
     have d0:decide (0<k)=true:=decide_eq_true (by omega);rw[d0] at HO;clear h ht hb ho e er hf hz hk d0 hk0 hv;go_enter Tryz.func135,Tryz.ntmps135
     go_wp2_with (first
      |(go_at_call 136;(with_reducible refine HB.out.mono ?_);rintro e w1 ⟨rfl,b1⟩;have B1:=hid b1;clear b1)
      |(go_at_call 87;(with_reducible refine(HN.out _ (HI.out.below B1.out)).mono ?_);rintro e w2 ⟨q1,q2⟩;unfold Int64 at q1;subst q1;have Q2:=hid q2;clear q2)
      |(go_at_call 137;(with_reducible refine(HO.out _ (HT.out _ ((HI.out.tbs B1.out).trans ((HI.out.below B1.out).bl Q2.out.kept)))).mono ?_);rintro e w3 ⟨rfl,b3⟩;have B3:=hid b3;clear b3))
     go_ret;obtain⟨k2,r2,hr2,i2⟩:=Q2.out;exact⟨rfl,(((Kept.of_below B1.out).none _).trans k2 (fun _ e=> .inl e)).trans (Kept.of_below B3.out) (fun _ e=>e.elim),r2,hr2.imp id (fun e=>Nat.le_trans B1.out.size e),i2.below B3.out⟩
 · have e:bits bz s D L x=.error 6:=by unfold bits;rw[if_neg hf]
   rw[e] at HN;have er:numR bz v s D L x=.error 6:=bnd_er e;rw[er];clear h ht hb ho e er hf hv;go_enter Tryz.func135,Tryz.ntmps135
   go_wp2_with (first
    |(go_at_call 136;(with_reducible refine HB.out.mono ?_);rintro e w1 ⟨rfl,b1⟩;have B1:=hid b1;clear b1)
    |(go_at_call 87;(with_reducible refine(HN.out _ (HI.out.below B1.out)).mono ?_);rintro e w2 ⟨q1,q2⟩;subst q1;have Q2:=hid q2;clear q2))
   exact⟨rfl,rfl,((Kept.of_below B1.out).none _).trans Q2.out (fun _ e=> .inl e)⟩
set_option maxHeartbeats 2000000 in
theorem dnum_c(h:In w B g q r s D L x)(hs:s.size≤100000)(ht:TB B w)(y bz:Nat)(b1:Bool)(v:Nat→Nat)(hbz:bz≤13)(hv:∀e,v e≤32768)
 (hb:∀w',V.Tabs w'→Calls Tryz.prog 139 #[.int .i64 y] w' fun e w2=>e=.returned (.tuple #[.int .i64 bz,.bool b1])∧Below w'.heap.size w' w2)
 (ho:∀e w',V.Tabs w'→Calls Tryz.prog 140 #[.int .i64 y,.int .u32 (e:Nat)] w' fun z w2=>z=.returned (.tuple #[.int .i64 (v e:Nat),.bool (decide (0<v e))])∧Below w'.heap.size w' w2):
 Calls Tryz.prog 135 #[.pointer (some ⟨g,0,none⟩),.int .i64 y,.func (.func 139) #[] #[],.func (.func 140) #[] #[]] w (Out w B g q r s D L (numR bz v s D L x) Int64):=by
 have HI:=hid h;have HT:=hid (fun(w':World) (hb:Below B w w')=>(show V.Tabs w' from ht w' hb));have HB:=hid (hb w ht.here);have HN:=hid (fun(w':World) (hw:In w' B g q r s D L x)=>bits_c hw hs bz (by omega));by_cases hf:x.1+bz≤8*s.size
 · have e:bits bz s D L x=.ok (M.nb s x.1 bz,(x.1+bz,x.2)):=by unfold bits;rw[if_pos hf]
   rw[e] at HN
   have hlt:M.nb s x.1 bz≤8191:=by
    have h1:=M.nb_lt s x.1 bz;have h2:2^bz≤2^13:=Nat.pow_le_pow_right (by decide) hbz;omega
   have er:numR bz v s D L x=if v (M.nb s x.1 bz)=0 then .error 163 else .ok (v (M.nb s x.1 bz),(x.1+bz,x.2)):=by
    unfold numR;rw[bnd_of e]
    split<;>rfl
   rw[er];obtain⟨z,hz⟩:∃z,M.nb s x.1 bz=z:=⟨_,rfl⟩
   rw[hz] at HN hlt ⊢;have hvz:=hv z;have HO:=hid (fun w' hw=>ho z w' hw);obtain⟨k,hk⟩:∃k,v z=k:=⟨_,rfl⟩
   rw[hk] at HO hvz ⊢;by_cases hk0:k=0
   · subst hk0
     rw[if_pos rfl];have HO':=hid (show ∀w',V.Tabs w'→Calls Tryz.prog 140 #[.int .i64 y,.int .u32 (z:Nat)] w' fun z w2=>z=.returned (.tuple #[.int .i64 0,.bool false])∧Below w'.heap.size w' w2 from HO.out);clear h ht hb ho e er hf hz hk HO hv;go_enter Tryz.func135,Tryz.ntmps135
     go_wp2_with (first
      |(go_at_call 139;(with_reducible refine HB.out.mono ?_);rintro e w1 ⟨rfl,b1⟩;have B1:=hid b1;clear b1)
      |(go_at_call 87;(with_reducible refine(HN.out _ (HI.out.below B1.out)).mono ?_);rintro e w2 ⟨q1,q2⟩;unfold Int64 at q1;subst q1;have Q2:=hid q2;clear q2)
      |(go_at_call 140;(with_reducible refine(HO'.out _ (HT.out _ ((HI.out.tbs B1.out).trans ((HI.out.below B1.out).bl Q2.out.kept)))).mono ?_);rintro e w3 ⟨rfl,b3⟩;have B3:=hid b3;clear b3)
      |(go_at_call 92;(with_reducible refine(fail_163 _).mono ?_);rintro e w4 ⟨rfl,k4⟩;have K4:=hid k4;clear k4))
     exact⟨rfl,rfl,((((Kept.of_below B1.out).none _).trans Q2.out.kept (fun _ e=> .inl e)).trans (Kept.of_below B3.out) (fun _ e=>e.elim)).trans K4.out (fun _ e=>e.elim)⟩
   · rw[if_neg hk0]
     have d0:decide (0<k)=true:=decide_eq_true (by omega);rw[d0] at HO;clear h ht hb ho e er hf hz hk d0 hk0 hv;go_enter Tryz.func135,Tryz.ntmps135
     go_wp2_with (first
      |(go_at_call 139;(with_reducible refine HB.out.mono ?_);rintro e w1 ⟨rfl,b1⟩;have B1:=hid b1;clear b1)
      |(go_at_call 87;(with_reducible refine(HN.out _ (HI.out.below B1.out)).mono ?_);rintro e w2 ⟨q1,q2⟩;unfold Int64 at q1;subst q1;have Q2:=hid q2;clear q2)
      |(go_at_call 140;(with_reducible refine(HO.out _ (HT.out _ ((HI.out.tbs B1.out).trans ((HI.out.below B1.out).bl Q2.out.kept)))).mono ?_);rintro e w3 ⟨rfl,b3⟩;have B3:=hid b3;clear b3))
     go_ret;obtain⟨k2,r2,hr2,i2⟩:=Q2.out;exact⟨rfl,(((Kept.of_below B1.out).none _).trans k2 (fun _ e=> .inl e)).trans (Kept.of_below B3.out) (fun _ e=>e.elim),r2,hr2.imp id (fun e=>Nat.le_trans B1.out.size e),i2.below B3.out⟩
 · have e:bits bz s D L x=.error 6:=by unfold bits;rw[if_neg hf]
   rw[e] at HN;have er:numR bz v s D L x=.error 6:=bnd_er e;rw[er];clear h ht hb ho e er hf hv;go_enter Tryz.func135,Tryz.ntmps135
   go_wp2_with (first
    |(go_at_call 139;(with_reducible refine HB.out.mono ?_);rintro e w1 ⟨rfl,b1⟩;have B1:=hid b1;clear b1)
    |(go_at_call 87;(with_reducible refine(HN.out _ (HI.out.below B1.out)).mono ?_);rintro e w2 ⟨q1,q2⟩;subst q1;have Q2:=hid q2;clear q2))
   exact⟨rfl,rfl,((Kept.of_below B1.out).none _).trans Q2.out (fun _ e=> .inl e)⟩
theorem lenR_eq(y:Nat):lenR y=numR (if y≤285 then lb (y - 257) else 0) (fun e=>if y≤285 then lof (y - 257) e else 0):=by
 funext s D L x;unfold lenR numR;by_cases h:y≤285
 · simp only[if_pos h]
   congr 1;funext e;by_cases q:lof (y - 257) e=0
   · rw[if_pos (.inr q),if_pos q]
   · rw[if_neg (by omega),if_neg q]
 · simp only[if_neg h]
   congr 1;funext e;rw[if_pos (.inl (by omega)),if_pos trivial]
theorem dstR_eq(y:Nat):dstR y=numR (if y≤29 then db y else 0) (fun e=>if y≤29 then dof y e else 0):=by
 funext s D L x;unfold dstR numR;by_cases h:y≤29
 · simp only[if_pos h]
   congr 1;funext e;by_cases q:dof y e=0
   · rw[if_pos (.inr q),if_pos q]
   · rw[if_neg (by omega),if_neg q]
 · simp only[if_neg h]
   congr 1;funext e;rw[if_pos (.inl (by omega)),if_pos trivial]
theorem lof_le(i e:Nat):lof i e≤258:=by
 by_cases h:lof i e=0
 · omega
 · have:=(lof_one h).2.2.2.2.2;omega
theorem dof_le(i e:Nat):dof i e≤32768:=by
 by_cases h:dof i e=0
 · omega
 · have:=(dof_one h).2.2.2.2.2;omega
theorem len_c(h:In w B g q r s D L x)(hs:s.size≤100000)(ht:TB B w)(y:Nat)(hy:257≤y):
 Calls Tryz.prog 135 #[.pointer (some ⟨g,0,none⟩),.int .i64 y,.func (.func 136) #[] #[],.func (.func 137) #[] #[]] w (Out w B g q r s D L (lenR y s D L x) Int64):=by
 rw[lenR_eq];by_cases h5:y≤285
 · simp only[if_pos h5]
   refine lnum_c h hs ht y _ true _ (by have:=lb_le (y - 257) (by omega);omega) (fun e=>by have:=lof_le (y - 257) e;omega) (fun w' hT=>Y.lbits_yes (y - 257) y w' hT.2 (by omega) (by omega)) (fun e w' hT=>Y.lengthOf_yes (y - 257) e y w' hT.2 (by omega) (by omega))
 · simp only[if_neg h5]
   exact lnum_c h hs ht y 0 false (fun _=>0) (by omega) (fun _=>by omega) (fun w' hT=>Y.lbits_no y w' hT.2 (by omega)) (fun e w' hT=>Y.lengthOf_no y e w' hT.2 (by omega))
theorem dst_c(h:In w B g q r s D L x)(hs:s.size≤100000)(ht:TB B w)(y:Nat):
 Calls Tryz.prog 135 #[.pointer (some ⟨g,0,none⟩),.int .i64 y,.func (.func 139) #[] #[],.func (.func 140) #[] #[]] w (Out w B g q r s D L (dstR y s D L x) Int64):=by
 rw[dstR_eq];by_cases h5:y≤29
 · simp only[if_pos h5]
   refine dnum_c h hs ht y _ true _ (by have:=db_le y h5;omega) (fun e=>dof_le y e) (fun w' hT=>Y.dbits_yes y y w' hT.2 h5 rfl) (fun e w' hT=>Y.distOf_yes y e y w' hT.2 h5 rfl)
 · simp only[if_neg h5]
   exact dnum_c h hs ht y 0 false (fun _=>0) (by omega) (fun _=>by omega) (fun w' hT=>Y.dbits_no y w' hT.2 (by omega)) (fun e w' hT=>Y.distOf_no y e w' hT.2 (by omega))
end
end Go.Proofs.YtdpabanajgegjaaGreatDoor.I
namespace Go.Proofs.YtdpabanajgegjaaGreatDoor.I
open Go Go.RowKit M
def plc(q:Nat)(w:World):Nat:=match w.cell? ⟨q,2,none⟩ with
 |some (.int _ a)=>a.toNat
 |_=>0
theorem In.plc{w:World}{B g q r D L:Nat}{s:ByteArray}{x:St}(h:In w B g q r s D L x):I.plc q w=x.1:=by
 unfold I.plc;rw[h.rd.c2];rfl
theorem Tb.go{w w':World}{B g q r r' D L p n:Nat}{s:ByteArray}{x:St}{l:Nat→Nat}(h:In w B g q r s D L x)(ht:Tb w r p l n)(hk:Kept (Ch g q r) w w')(hr:r'=r∨w.heap.size≤r'):Tb w' r' p l n:=
 (h.tb ht hk).row (by
  have:=ht.lt;rcases hr with e|e
  · rw[e];exact ht.ne
  · omega)
structure SS(w0:World)(r0 B g q:Nat)(s:ByteArray)(D L b p1 p2:Nat)(l:Nat→Nat)(n:Nat)(d:Nat→Nat)(m:Nat)(x:St)(w:World):Prop where
 ex:∃r,In w B g q r s D L x∧(r=r0∨w0.heap.size≤r)∧Tb w r p1 l n∧Tb w r p2 d m
 kp:Kept (Ch g q r0) w0 w
 bx:w.heap[b]? =some (.cells #[.pointer (some ⟨p1,0,none⟩),.pointer (some ⟨p2,0,none⟩)] 105 (0,0))
 tb:TB B w
def OS{α:Type}(w0:World)(r0 B g q:Nat)(s:ByteArray)(D L b p1 p2:Nat)(l:Nat→Nat)(n:Nat)(d:Nat→Nat)(m:Nat)(res:Except Nat (α×St))(V:α→Ending→World→Prop)(e:Ending)(w':World):Prop:=
 match res with
 |.ok p=>V p.1 e w'∧SS w0 r0 B g q s D L b p1 p2 l n d m p.2 w'
 |.error c=>e=.panicked (flt c)∧Kept (Ch g q r0) w0 w'
section
variable {w0 w:World} {r0 B g q D L b p1 p2 n m:Nat} {s:ByteArray} {l d:Nat→Nat} {x:St}
theorem SS.cells(h:SS w0 r0 B g q s D L b p1 p2 l n d m x w):w.cell? ⟨b,0,none⟩=some (.pointer (some ⟨p1,0,none⟩))∧w.cell? ⟨b,1,none⟩=some (.pointer (some ⟨p2,0,none⟩)):=by
 constructor<;>simp[World.cell?,h.bx]
theorem typ_ne{w:World}{j k:Nat}{c c':Array Value}{t t':TypeId}{f f':Nat×Nat}(h:w.heap[j]? =some (.cells c t f))(h':w.heap[k]? =some (.cells c' t' f'))(ht:t≠t'):j≠k:=by
 intro e;subst e;rw[h] at h';injection h' with h'
 injection h' with _ h' _
 exact ht h'
theorem SS.step(h:SS w0 r0 B g q s D L b p1 p2 l n d m x w){r:Nat}(hI:In w B g q r s D L x)(hr:r=r0∨w0.heap.size≤r)(h1:Tb w r p1 l n)(h2:Tb w r p2 d m){w':World}{y:St}(k:Res w B g q r s D L y w'):SS w0 r0 B g q s D L b p1 p2 l n d m y w':=by
 obtain⟨k1,r',k2,k3⟩:=k;have hs:=h.kp.size;refine⟨⟨r',k3,?_,Tb.go hI h1 k1 k2,Tb.go hI h2 k1 k2⟩,Kept.ch_trans h.kp k1 hr,?_,h.tb.go (hI.bl k1)⟩
 · rcases k2 with e|e
   · rw[e];exact hr
   · exact .inr (by omega)
 · have hb:=(Array.getElem?_eq_some_iff.1 h.bx).1
   refine(k1.block b hb (fun e=> ?_)).trans h.bx;obtain⟨cp,v3,v4,g1,g2,g3⟩:=hI.row;obtain⟨c,fz,g4⟩:=g2.typ;rcases e with e|e|e
   · exact typ_ne h.bx g1 (by decide) e
   · have:=hI.rd.c0
     rw[←e,h.cells.1] at this;cases this
   · exact typ_ne h.bx g4 (by decide) e
theorem SS.lift{α:Type}(h:SS w0 r0 B g q s D L b p1 p2 l n d m x w){r:Nat}(hI:In w B g q r s D L x)(hr:r=r0∨w0.heap.size≤r)(h1:Tb w r p1 l n)(h2:Tb w r p2 d m){f:Nat}{args:Array Value}{res:Except Nat (α×St)}{V:α→Ending→World→Prop}
 (c:Calls Tryz.prog f args w (Out w B g q r s D L res V)):Calls Tryz.prog f args w (OS w0 r0 B g q s D L b p1 p2 l n d m res V):=by
 refine c.mono fun e w' o=> ?_
 cases res with
 |ok p=>exact⟨o.1,h.step hI hr h1 h2 o.2⟩
 |error c=>exact⟨o.1,Kept.ch_trans h.kp o.2 hr⟩
theorem SS.next1(h:SS w0 r0 B g q s D L b p1 p2 l n d m x w)(hs:s.size≤100000):Calls Tryz.prog 134 #[.pointer (some ⟨g,0,none⟩),.pointer (some ⟨p1,0,none⟩)] w (OS w0 r0 B g q s D L b p1 p2 l n d m (nxt l n s D L x) Int64):=by
 obtain⟨r,i,hr,t1,t2⟩:=h.ex;exact h.lift i hr t1 t2 (next_c i hs t1)
theorem SS.next2(h:SS w0 r0 B g q s D L b p1 p2 l n d m x w)(hs:s.size≤100000):Calls Tryz.prog 134 #[.pointer (some ⟨g,0,none⟩),.pointer (some ⟨p2,0,none⟩)] w (OS w0 r0 B g q s D L b p1 p2 l n d m (nxt d m s D L x) Int64):=by
 obtain⟨r,i,hr,t1,t2⟩:=h.ex;exact h.lift i hr t1 t2 (next_c i hs t2)
theorem SS.len(h:SS w0 r0 B g q s D L b p1 p2 l n d m x w)(hs:s.size≤100000)(y:Nat)(hy:257≤y):Calls Tryz.prog 135 #[.pointer (some ⟨g,0,none⟩),.int .i64 y,.func (.func 136) #[] #[],.func (.func 137) #[] #[]] w (OS w0 r0 B g q s D L b p1 p2 l n d m (lenR y s D L x) Int64):=by
 obtain⟨r,i,hr,t1,t2⟩:=h.ex;exact h.lift i hr t1 t2 (len_c i hs h.tb y hy)
theorem SS.dst(h:SS w0 r0 B g q s D L b p1 p2 l n d m x w)(hs:s.size≤100000)(y:Nat):Calls Tryz.prog 135 #[.pointer (some ⟨g,0,none⟩),.int .i64 y,.func (.func 139) #[] #[],.func (.func 140) #[] #[]] w (OS w0 r0 B g q s D L b p1 p2 l n d m (dstR y s D L x) Int64):=by
 obtain⟨r,i,hr,t1,t2⟩:=h.ex;exact h.lift i hr t1 t2 (dst_c i hs h.tb y)
theorem SS.match(h:SS w0 r0 B g q s D L b p1 p2 l n d m x w)(t k:Nat)(ht:1≤t∧t≤32768)(hk:k≤258)(hL:L≤800000000)(hD:D≤100000000):
 Calls Tryz.prog 138 #[.pointer (some ⟨g,0,none⟩),.int .i64 k,.int .i64 t] w (OS w0 r0 B g q s D L b p1 p2 l n d m (copy t k s D L x) Nothing):=by
 obtain⟨r,i,hr,t1,t2⟩:=h.ex;exact h.lift i hr t1 t2 (match_c i t k ht hk (by omega) (by have:=i.ll;omega))
theorem SS.take_no(h:SS w0 r0 B g q s D L b p1 p2 l n d m x w)(hL:L<x.2.length - D+1):Calls Tryz.prog 131 #[.pointer (some ⟨g,0,none⟩),.int .i64 1] w fun e w'=>e=.panicked (flt 5)∧Kept (Ch g q r0) w0 w':=by
 obtain⟨r,i,hr,t1,t2⟩:=h.ex;exact(I.take_no i (k:=1) (by omega) hL).mono fun e w' o=>⟨o.1,h.kp.trans o.2 (fun _ e=>e.elim)⟩
theorem SS.take_yes(h:SS w0 r0 B g q s D L b p1 p2 l n d m x w)(u:UInt8)(hL0:L≤800000000)(hD:D≤100000000)(hL:¬L<x.2.length - D+1):∃ (r cp N:Nat) (w1:World),Calls Tryz.prog 131 #[.pointer (some ⟨g,0,none⟩),.int .i64 1] w (fun e w'=>e=.returned (.tuple #[])∧w'=w1)∧
 N≤900000000∧x.2.length=N∧Ry w1 r cp x.2∧w1.cell? ⟨g,1,none⟩=some (.slice (some ⟨r,0,none⟩) N cp)∧w1.frozen? ⟨g,1,none⟩=false∧g<w1.heap.size∧g≠r∧
 ∀ (w2 w3:World) (g' cp':Nat),Kept NoB w1 w2→Ry w3 g' cp' (x.2++[u])→w2.grownBy w3 (some r)→(g'=r∨w2.heap.size≤g')→SS w0 r0 B g q s D L b p1 p2 l n d m (x.1,x.2++[u]) (w3.setCell ⟨g,1,none⟩ (.slice (some ⟨g',0,none⟩) (N+1) cp')):=by
 obtain⟨r,i,hr,t1,t2⟩:=h.ex;have hT:=I.take_yes i (k:=1) (by omega) hL;obtain⟨cp0,hir⟩:=i.ir;obtain⟨hir1,hk1⟩:=hir.setZ ((L:Int) - ((x.2.length - D+1:Nat):Int));have hll:=i.ll;have hdl:=i.dl;have hc:=hir1.cells;refine⟨r,cp0,x.2.length,_,hT,by omega,rfl,hir1.ry,hc.2.1,hc.2.2 1,hir1.glt,hir1.gr,fun w2 w3 g' cp' h2 h3 h4 h5=> ?_⟩;obtain⟨j1,j2,j3⟩:=hir1.app h2 h3 h4 h5 (n:=x.2.length+1) (by simp);have hk:Kept (Ch g q r) w (w3.setCell ⟨g,1,none⟩ (.slice (some ⟨g',0,none⟩) (x.2.length+1) cp')):=Kept.ch_trans (hk1.mono fun j e=> .inl e) j2 (.inl rfl);have hs:=hk1.size;refine h.step i hr t1 t2 ⟨hk,g',j3.imp id (fun e=>by omega),j1.in_ (by simp only[List.length_append,List.length_singleton];omega) (by simp only[List.length_append];omega) (by simp only[List.length_append,List.length_singleton];omega)⟩
end
end Go.Proofs.YtdpabanajgegjaaGreatDoor.I
namespace Go.Proofs.YtdpabanajgegjaaGreatDoor.I
open Go.Lib (hid)
open Go Go.RowKit M
section
variable {w:World} {B g q r D L p1 p2 n m:Nat} {s:ByteArray} {l d:Nat→Nat} {x:St}
theorem SS.new(h:In w B g q r s D L x)(ht:TB B w)(t1:Tb w r p1 l n)(t2:Tb w r p2 d m):SS w r B g q s D L w.heap.size p1 p2 l n d m x (w.alloc (.cells #[.pointer (some ⟨p1,0,none⟩),.pointer (some ⟨p2,0,none⟩)] 105)):=by
 have hk:Kept NoB w (w.alloc (.cells #[.pointer (some ⟨p1,0,none⟩),.pointer (some ⟨p2,0,none⟩)] 105)):=(Kept.refl _ _).alloc _;refine⟨⟨r,h.same hk,.inl rfl,t1.kept h.byt hk (fun _ e=>e.elim),t2.kept h.byt hk (fun _ e=>e.elim)⟩,hk.none _,heap_alloc_new _ _,ht.go (h.bl (hk.none _))⟩
theorem lenR_ok{y k:Nat}{z:St}(h:lenR y s D L x=.ok (k,z)):k≤258:=by
 unfold lenR at h;obtain⟨e,y1,h1,h2⟩:=bnd_ok h
 split at h2
 · cases h2
 · cases h2
   exact lof_le _ _
theorem dstR_ok{y k:Nat}{z:St}(h:dstR y s D L x=.ok (k,z)):1≤k∧k≤32768:=by
 unfold dstR at h;obtain⟨e,y1,h1,h2⟩:=bnd_ok h
 split at h2
 · cases h2
 · rename_i q
   cases h2
   have:=dof_le y e;omega
theorem nxt_y{z:St}{y:Nat}(h:nxt l n s D L x=.ok (y,z))(hx:x.1≤8*s.size):y<320∧x.1<z.1∧z.1≤8*s.size:=by
 obtain⟨h1,h2,h3,h4,h5,rfl⟩:=nxt_ok h hx;have:=h1.fit.1.1;exact⟨by omega,by simp only;omega,h4⟩
set_option maxHeartbeats 4000000 in
theorem symbols_c(h:In w B g q r s D L x)(hs:s.size≤100000)(ht:TB B w)(t1:Tb w r p1 l n)(t2:Tb w r p2 d m)(K:Nat)(hK:8*s.size - x.1<K)(hL:L≤800000000)(hD:D≤100000000):
 Calls Tryz.prog 91 #[.pointer (some ⟨g,0,none⟩),.agg #[.pointer (some ⟨p1,0,none⟩),.pointer (some ⟨p2,0,none⟩)]] w (Out w B g q r s D L (syms K l n d m s D L x) Nothing):=by
 have hs0:=SS.new h ht t1 t2;obtain⟨R,hR⟩:∃R,syms K l n d m s D L x=R:=⟨_,rfl⟩
 rw[hR];unfold syms at hR;obtain⟨b,hb⟩:∃b,w.heap.size=b:=⟨_,rfl⟩
 rw[hb] at hs0;have HS:=hid hs0;have HR:=hid hR;clear h ht t1 t2 hs0 hR;go_enter Tryz.func91,Tryz.ntmps91;go_wp2_with fail
 go_loopw [4] (fun i wr=> ∃k x',SS w r B g q s D L b p1 p2 l n d m x' wr∧8*s.size - x'.1<k∧loopR (sym1 l n d m) k () s D L x'=R) (fun _ wr=>8*s.size - plc q wr)
 case atStart=>exact⟨K,x,HS.out,hK,HR.out⟩
 case round=>
  obtain⟨k,x',hS,hk,hR⟩:=hrel;clear HS HR;obtain⟨k,rfl⟩:∃j,k=j+1:=⟨k - 1,by omega⟩
  have hle:x'.1≤8*s.size∧plc q wr=x'.1:=by obtain⟨r',i,_⟩:=hS.ex;exact⟨i.rd.le,i.plc⟩
  obtain⟨c0,c1⟩:=hS.cells;have HS:=hid hS;have HN:=hid (hS.next1 hs);clear hS;cases hn:nxt l n s D L x' with
  |error c=>
   obtain rfl:R=.error c:=by rw[←hR];exact loop_no (bnd_er hn)
   rw[hn] at HN;clear hR hn hk hle c1;go_wp2_with (go_at_call 134;(with_reducible refine HN.out.mono ?_);rintro e w1 ⟨rfl,k1⟩;have K1:=hid k1;clear k1);exact⟨rfl,rfl,K1.out⟩
  |ok p=>
   obtain⟨y,x1⟩:=p;rw[hn] at HN;obtain⟨hy,hx1,hx1l⟩:=nxt_y hn hle.1;by_cases hy1:y<256
   · have es:sym1 l n d m () s D L x'=if L<x1.2.length - D+1 then .error 5 else .ok (.inl (),(x1.1,x1.2++[UInt8.ofNat y])):=by
      unfold sym1;rw[bnd_of hn,if_pos hy1];have ha:app [UInt8.ofNat y] s D L x1=if L<x1.2.length - D+1 then .error 5 else .ok ((),(x1.1,x1.2++[UInt8.ofNat y])):=rfl;by_cases q:L<x1.2.length - D+1
      · rw[if_pos q] at ha ⊢
        exact bnd_er ha
      · rw[if_neg q] at ha ⊢
        rw[bnd_of ha];rfl
     by_cases hl:L<x1.2.length - D+1
     · rw[if_pos hl] at es
       obtain rfl:R=.error 5:=by rw[←hR];exact loop_no es
       clear hR hn hk hle c1 es
       go_wp2_with (first
        |(go_at_call 134;(with_reducible refine HN.out.mono ?_);rintro e w1 ⟨q1,q2⟩;unfold Int64 at q1;subst q1;have HT:=hid (q2.take_no hl);clear q2)
        |(go_at_call 131;(with_reducible refine HT.out.mono ?_);rintro e w2 ⟨rfl,k2⟩;have K2:=hid k2;clear k2))
       exact⟨rfl,rfl,K2.out⟩
     · rw[if_neg hl] at es
       have hgo:=(loop_go (k:=k) es).symm.trans hR;have HG:=hid hgo;have hkk:8*s.size - x1.1<k:=by omega
       have hu:((UInt8.ofNat y).toNat:Int)=(y:Int):=by rw[UInt8.toNat_ofNat'];omega
       clear hR hn es hgo c1 hk
       go_wp2_with (first
        |(go_at_call 134;(with_reducible refine HN.out.mono ?_);rintro e w1 ⟨q1,q2⟩;unfold Int64 at q1;subst q1;obtain⟨r9,cp9,N9,w9,u1,u2,u3,u4,u5,u6,u7,u8,u9⟩:=q2.take_yes (UInt8.ofNat y) hL hD hl;have HT:=hid u1;have HY:=hid u4;have HX:=hid u9;have HNe:=hid u8;have HN9:=hid u3;clear q2 u1 u3 u4 u8 u9)
        |(go_at_call 131;(with_reducible refine HT.out.mono ?_);rintro e w2 ⟨rfl,rfl⟩)
        |(at_builtin;refine wpList_ay1 rfl (.tmp 31) (.tmp 34) rfl r9 N9 cp9 x1.2 rfl (HY.out.of_block (Below.heap_alloc _ _ _ HY.out.lt)) HN9.out ⟨w2.heap.size,0,none⟩ 1 (UInt8.ofNat y) rfl (by rw[hu];simp) (by omega) ?_;intro g' cp' w4 r2 gr4 o4;have HL4:=hid (HX.out _ w4 g' cp' ((Kept.refl NoB w2).alloc _) r2 gr4 o4);have w4b:=(gr4.block g (by simp;omega) (by intro e;injection e with e;exact HNe.out e));have w4f:=(World.frozen?_of_block (a:=⟨g,1,none⟩) w4b).trans ((World.frozen?_of_block (a:=⟨g,1,none⟩) (Below.heap_alloc _ _ _ u7)).trans u6);have w4c:=(World.cell?_of_block (a:=⟨g,1,none⟩) w4b).trans ((World.cell?_of_block (a:=⟨g,1,none⟩) (Below.heap_alloc _ _ _ u7)).trans u5);clear w4b r2 gr4 o4))
       go_roundw
       case rel=>exact⟨k,_,HL4.out,hkk,HG.out⟩
       case measure=>
        have hp:plc q (w4.setCell ⟨g,1,none⟩ (.slice (some ⟨g',0,none⟩) (N9+1) cp'))=x1.1:=by obtain⟨r',i,_⟩:=HL4.out.ex;exact i.plc
        rw[hp,hle.2];omega
   · by_cases hy2:y=256
     · subst hy2
       have es:sym1 l n d m () s D L x'=.ok (.inr (),x1):=by
        unfold sym1;rw[bnd_of hn,if_neg (by decide),if_pos rfl];rfl
       obtain rfl:R=.ok ((),x1):=by rw[←hR];exact loop_end es
       clear hR hn hk hle c1 es hy1;have HN':=hid (show Calls Tryz.prog 134 #[.pointer (some ⟨g,0,none⟩),.pointer (some ⟨p1,0,none⟩)] wr fun e w'=>e=.returned (.int .i64 256)∧SS w r B g q s D L b p1 p2 l n d m x1 w' from HN.out);clear HN;go_wp2_with (go_at_call 134;(with_reducible refine HN'.out.mono ?_);rintro e w1 ⟨rfl,q2⟩;have Q2:=hid q2;clear q2);go_end0;obtain⟨r',i,hr',_⟩:=Q2.out.ex;exact⟨rfl,Q2.out.kp,r',hr',i⟩
     · have e0:((y:Int)==256)=false:=by rw[beq_eq_false_iff_ne];omega
       have e1:(y==256)=false:=by rw[beq_eq_false_iff_ne];exact hy2
       have es:sym1 l n d m () s D L x'=matR y d m s D L x1:=by
        unfold sym1;rw[bnd_of hn,if_neg hy1,if_neg hy2]
       unfold matR at es;cases hl:lenR y s D L x1 with
       |error c=>
        rw[bnd_er hl] at es;obtain rfl:R=.error c:=by rw[←hR];exact loop_no es
        clear hR hn hk hle c1 es;have hy7:257≤y:=by omega
        go_wp2_with (first
         |(go_at_call 134;(with_reducible refine HN.out.mono ?_);rintro e w1 ⟨q1,q2⟩;unfold Int64 at q1;subst q1;have HT:=q2.len hs y hy7;rw[hl] at HT;have HT:=hid HT;clear q2)
         |(go_at_call 135;(with_reducible refine HT.out.mono ?_);rintro e w2 ⟨rfl,k2⟩;have K2:=hid k2;clear k2))
        exact⟨rfl,rfl,K2.out⟩
       |ok p=>
        obtain⟨v,x2⟩:=p;have hv:=lenR_ok hl;rw[bnd_of hl] at es;have hy7:257≤y:=by omega
        cases hz:nxt d m s D L x2 with
        |error c=>
         rw[bnd_er hz] at es;obtain rfl:R=.error c:=by rw[←hR];exact loop_no es
         clear hR hn hk hle es
         go_wp2_with (first
          |(go_at_call 134;(with_reducible refine HN.out.mono ?_);rintro e w1 ⟨q1,q2⟩;unfold Int64 at q1;subst q1;have HT:=q2.len hs y hy7;rw[hl] at HT;have HT:=hid HT;clear q2 HN)
          |(go_at_call 135;(with_reducible refine HT.out.mono ?_);rintro e w2 ⟨q1,q2⟩;unfold Int64 at q1;subst q1;have HZ:=q2.next2 hs;rw[hz] at HZ;have HZ:=hid HZ;obtain⟨_,d1⟩:=q2.cells;clear q2 HT)
          |(go_at_call 134;(with_reducible refine HZ.out.mono ?_);rintro e w3 ⟨rfl,k3⟩;have K3:=hid k3;clear k3))
         exact⟨rfl,rfl,K3.out⟩
        |ok p=>
         obtain⟨z,x3⟩:=p;rw[bnd_of hz] at es;cases ht:dstR z s D L x3 with
         |error c=>
          rw[bnd_er ht] at es;obtain rfl:R=.error c:=by rw[←hR];exact loop_no es
          clear hR hn hk hle es;go_wp2_with (first
          |(go_at_call 134;(with_reducible refine HN.out.mono ?_);rintro e w1 ⟨q1,q2⟩;unfold Int64 at q1;subst q1;have HT:=q2.len hs y hy7;rw[hl] at HT;have HT:=hid HT;clear q2 HN)
          |(go_at_call 135;(with_reducible refine HT.out.mono ?_);rintro e w2 ⟨q1,q2⟩;unfold Int64 at q1;subst q1;have HZ:=q2.next2 hs;rw[hz] at HZ;have HZ:=hid HZ;obtain⟨_,d1⟩:=q2.cells;clear q2 HT)
          |(go_at_call 134;(with_reducible refine HZ.out.mono ?_);rintro e w3 ⟨q1,q2⟩;unfold Int64 at q1;subst q1;have HD:=q2.dst hs z;rw[ht] at HD;have HD:=hid HD;clear q2 HZ)
          |(go_at_call 135;(with_reducible refine HD.out.mono ?_);rintro e w4 ⟨rfl,k4⟩;have K4:=hid k4;clear k4))
          exact⟨rfl,rfl,K4.out⟩
         |ok p=>
          obtain⟨t,x4⟩:=p;have htb:=dstR_ok ht;rw[bnd_of ht] at es;cases hc:copy t v s D L x4 with
          |error c=>
           rw[bnd_er hc] at es;obtain rfl:R=.error c:=by rw[←hR];exact loop_no es
           clear hR hn hk hle es;go_wp2_with (first
          |(go_at_call 134;(with_reducible refine HN.out.mono ?_);rintro e w1 ⟨q1,q2⟩;unfold Int64 at q1;subst q1;have HT:=q2.len hs y hy7;rw[hl] at HT;have HT:=hid HT;clear q2 HN)
          |(go_at_call 135;(with_reducible refine HT.out.mono ?_);rintro e w2 ⟨q1,q2⟩;unfold Int64 at q1;subst q1;have HZ:=q2.next2 hs;rw[hz] at HZ;have HZ:=hid HZ;obtain⟨_,d1⟩:=q2.cells;clear q2 HT)
          |(go_at_call 134;(with_reducible refine HZ.out.mono ?_);rintro e w3 ⟨q1,q2⟩;unfold Int64 at q1;subst q1;have HD:=q2.dst hs z;rw[ht] at HD;have HD:=hid HD;clear q2 HZ)
          |(go_at_call 135;(with_reducible refine HD.out.mono ?_);rintro e w4 ⟨q1,q2⟩;unfold Int64 at q1;subst q1;have HC:=q2.match t v htb hv hL hD;rw[hc] at HC;have HC:=hid HC;clear q2 HD)
          |(go_at_call 138;(with_reducible refine HC.out.mono ?_);rintro e w5 ⟨rfl,k5⟩;have K5:=hid k5;clear k5))
           exact⟨rfl,rfl,K5.out⟩
          |ok p=>
           obtain⟨u5,x5⟩:=p;rw[bnd_of hc] at es;have hgo:=(loop_go (k:=k) es).symm.trans hR;have HG:=hid hgo
           have hx5:x'.1<x5.1:=by
            have a1:=((Nice.lenR y).mono hl).1;have a2:=((Nice.nxt d m).mono hz).1;have a3:=((Nice.dstR z).mono ht).1;have a4:=((Nice.copy t v).mono hc).1;omega
           have hx5l:=(Nice.copy t v).inn hc ((Nice.dstR z).inn ht ((Nice.nxt d m).inn hz ((Nice.lenR y).inn hl hx1l)));have hkk:8*s.size - x5.1<k:=by omega
           clear hR hn es hgo hk;go_wp2_with (first
          |(go_at_call 134;(with_reducible refine HN.out.mono ?_);rintro e w1 ⟨q1,q2⟩;unfold Int64 at q1;subst q1;have HT:=q2.len hs y hy7;rw[hl] at HT;have HT:=hid HT;clear q2 HN)
          |(go_at_call 135;(with_reducible refine HT.out.mono ?_);rintro e w2 ⟨q1,q2⟩;unfold Int64 at q1;subst q1;have HZ:=q2.next2 hs;rw[hz] at HZ;have HZ:=hid HZ;obtain⟨_,d1⟩:=q2.cells;clear q2 HT)
          |(go_at_call 134;(with_reducible refine HZ.out.mono ?_);rintro e w3 ⟨q1,q2⟩;unfold Int64 at q1;subst q1;have HD:=q2.dst hs z;rw[ht] at HD;have HD:=hid HD;clear q2 HZ)
          |(go_at_call 135;(with_reducible refine HD.out.mono ?_);rintro e w4 ⟨q1,q2⟩;unfold Int64 at q1;subst q1;have HC:=q2.match t v htb hv hL hD;rw[hc] at HC;have HC:=hid HC;clear q2 HD)
          |(go_at_call 138;(with_reducible refine HC.out.mono ?_);rintro e w5 ⟨q1,q2⟩;unfold Nothing at q1;subst q1;have HL4:=hid q2;clear q2))
           go_roundw
           case rel=>exact⟨k,_,HL4.out,hkk,HG.out⟩
           case measure=>
            have hp:plc q w5=x5.1:=by obtain⟨r',i,_⟩:=HL4.out.ex;exact i.plc
            rw[hp,hle.2];omega
end
theorem xor16(n:Nat)(hn:n≤65535):Go.bits .xor .u16 (n:Int) 65535=((65535 - n:Nat):Int)∧Go.bits .xor .u16 65535 (n:Int)=((65535 - n:Nat):Int):=by
 have h:∀a b:Nat,a<65536→b<65536→Go.bits .xor .u16 (a:Int) (b:Int)=((a^^^b:Nat):Int):=by
  intro a b ha hb;have hx:a^^^b<2^16:=Nat.xor_lt_two_pow (by simpa using ha) (by simpa using hb)
  have h1:∀a:Nat,a<65536→(BitVec.ofInt 16 (a:Int)).toNat=a:=fun a ha=>by
   rw[BitVec.ofInt_natCast,BitVec.toNat_ofNat];exact Nat.mod_eq_of_lt (by omega)
  show IntKind.u16.wrap ((BitVec.ofInt 16 (a:Int)^^^BitVec.ofInt 16 (b:Int)).toNat:Int)=_
  rw[BitVec.toNat_xor,h1 a ha,h1 b hb];have hw:∀n:Int,IntKind.u16.wrap n=n%65536:=fun n=>by simp[IntKind.wrap,IntKind.bits,IntKind.signed]
  rw[hw];omega
 have e:n^^^65535=65535 - n:=by
  refine Nat.eq_of_testBit_eq fun i=> ?_
  rw[Nat.testBit_xor,show 65535 - n=2^16 - (n+1) by omega,Nat.testBit_two_pow_sub_succ (by omega),show(65535:Nat)=2^16 - 1 from rfl,Nat.testBit_two_pow_sub_one];by_cases q:i<16
  · simp[q]
  · have:n.testBit i=false:=Nat.testBit_lt_two_pow (Nat.lt_of_lt_of_le (show n<2^16 by omega) (Nat.pow_le_pow_right (by decide) (by omega)))
    simp[q,this]
 have h1:=h n 65535 (by omega) (by omega);have h2:=h 65535 n (by omega) (by omega);rw[Nat.xor_comm,e] at h2;rw[e] at h1;exact⟨h1,h2⟩
theorem wpList_ayM{ops:Array Oper}{rest:List Oper}{o:Oper}{a:Act}{w:World}{Q:Exit→Act→World→Prop}(hgd:o.guard=none)(s x:Operand)
 (ho:o.op=.call {callee:=.builtin .append,args:= #[s,x],argTypes:= #[23,9]}) (g n cp:Nat) (bs:List UInt8) (hs:a.eval s=.slice (some ⟨g,0,none⟩) n cp) (h:Ry w g cp bs) (hn:bs.length=n)
 (t:ByteArray) (hx:a.eval x=.string t) (hm:n+t.size≤10000000000) (M:Nat) (hM:M=(bs++t.data.toList).length)
 (hK:∀g' cp' w',Ry w' g' cp' (bs++t.data.toList)→w.grownBy w' (some g)→(g'=g∨w.heap.size≤g')→wpList Tryz.prog ops Q rest (a.put o.dst (.slice (some ⟨g',0,none⟩) M cp')) w'):wpList Tryz.prog ops Q (o::rest) a w:=by
 subst hM;exact wpList_ays hgd s x ho g n cp bs hs h hn t hx hm hK
section
variable {w0 w:World} {r0 B g q r D L:Nat} {s:ByteArray} {x:St}
theorem In.start(h:In w B g q r s D L x):Res w B g q r s D L x w:=⟨Kept.refl _ _,r,.inl rfl,h⟩
theorem Res.lift{α:Type}(h:Res w0 B g q r0 s D L x w){f:Nat}{args:Array Value}{res:Except Nat (α×St)}{V:α→Ending→World→Prop}
 (c:∀r,In w B g q r s D L x→Calls Tryz.prog f args w (Out w B g q r s D L res V)):Calls Tryz.prog f args w (Out w0 B g q r0 s D L res V):=by
 obtain⟨k,r,hr,i⟩:=h;refine(c r i).mono fun e w' o=> ?_
 cases res with
 |ok p=>exact⟨o.1,Res.trans (y:=x) k hr o.2⟩
 |error c=>exact⟨o.1,Kept.ch_trans k o.2 hr⟩
theorem Res.end_(h:Res w0 B g q r0 s D L x w){w':World}(hk:Kept NoB w w'):Kept (Ch g q r0) w0 w':=h.kept.trans hk (fun _ e=>e.elim)
theorem bits_lt{n a:Nat}{y:St}(h:bits n s D L x=.ok (a,y))(k:Nat)(hk:2^n≤k):a<k∧y=(x.1+n,x.2):=by
 unfold bits at h
 split at h
 · cases h
   exact⟨Nat.lt_of_lt_of_le (M.nb_lt _ _ _) hk,rfl⟩
 · cases h
theorem bytes_c(h:Res w0 B g q r0 s D L x w)(hs:s.size≤100000)(n:Nat):∃q0,w.cell? ⟨g,0,none⟩=some (.pointer (some ⟨q0,0,none⟩))∧
 Calls Tryz.prog 130 #[.pointer (some ⟨q0,0,none⟩),.int .i64 n] w fun e w'=>
  (if(x.1+7) /8+n≤s.size then e=.returned (.tuple #[.string (s.extract ((x.1+7) /8) ((x.1+7) /8+n)),.int .i64 0])∧Res w0 B g q r0 s D L (8*((x.1+7) /8+n),x.2) w'
   else e=.returned (.tuple #[.string ⟨#[]⟩,.int .i64 6])∧Kept (Ch g q r0) w0 w'):=by
 obtain⟨k,r,hr,i⟩:=h;obtain⟨cp,v3,v4,c0,_⟩:=i.cells;refine⟨q,c0,?_⟩;by_cases hf:(x.1+7) /8+n≤s.size
 · refine(rbytes_yes i.rd (by omega) n hf).mono fun e w' o=> ?_
   rw[if_pos hf];obtain⟨rfl,o2,o3⟩:=o;exact⟨rfl,Kept.ch_trans k (kq o3) hr,r,hr,i.read o3 o2⟩
 · refine(rbytes_end i.rd (by omega) (n:Int) (by omega) (by omega)).mono fun e w' o=> ?_
   rw[if_neg hf];obtain⟨rfl,o2,o3⟩:=o;exact⟨rfl,Kept.ch_trans k (kq o3) hr⟩
theorem Res.take_str(h:Res w0 B g q r0 s D L x w)(u:ByteArray)(hL0:L≤800000000)(hD:D≤100000000)(hu:u.size≤100000)(hL:¬L<x.2.length - D+u.size):∃ (r cp N:Nat) (w1:World),Calls Tryz.prog 131 #[.pointer (some ⟨g,0,none⟩),.int .i64 u.size] w (fun e w'=>e=.returned (.tuple #[])∧w'=w1)∧
 N≤900000000∧x.2.length=N∧Ry w1 r cp x.2∧w1.cell? ⟨g,1,none⟩=some (.slice (some ⟨r,0,none⟩) N cp)∧w1.frozen? ⟨g,1,none⟩=false∧g<w1.heap.size∧g≠r∧
 ∀ (w3:World) (g' cp' M:Nat),M=(x.2++u.data.toList).length→Ry w3 g' cp' (x.2++u.data.toList)→w1.grownBy w3 (some r)→(g'=r∨w1.heap.size≤g')→Res w0 B g q r0 s D L (x.1,x.2++u.data.toList) (w3.setCell ⟨g,1,none⟩ (.slice (some ⟨g',0,none⟩) M cp')):=by
 obtain⟨k,r,hr,i⟩:=h;have hT:=I.take_yes i (k:=u.size) (by omega) hL;obtain⟨cp0,hir⟩:=i.ir;obtain⟨hir1,hk1⟩:=hir.setZ ((L:Int) - ((x.2.length - D+u.size:Nat):Int));have hll:=i.ll;have hdl:=i.dl;have hc:=hir1.cells;have hul:u.data.toList.length=u.size:=Array.length_toList;refine⟨r,cp0,x.2.length,_,hT,by omega,rfl,hir1.ry,hc.2.1,hc.2.2 1,hir1.glt,hir1.gr,fun w3 g' cp' M hM h3 h4 h5=> ?_⟩;subst hM;obtain⟨j1,j2,j3⟩:=hir1.app (Kept.refl _ _) h3 h4 h5 rfl;have hk:Kept (Ch g q r) w (w3.setCell ⟨g,1,none⟩ (.slice (some ⟨g',0,none⟩) (x.2++u.data.toList).length cp')):=Kept.ch_trans (hk1.mono fun j e=> .inl e) j2 (.inl rfl);have hs:=hk1.size;exact Res.trans (y:=x) k hr ⟨hk,g',j3.imp id (fun e=>by omega),j1.in_ (by simp only[List.length_append];omega) (by simp only[List.length_append];omega) (by simp only[List.length_append];omega)⟩
theorem Res.take_no(h:Res w0 B g q r0 s D L x w){k:Nat}(hk:k≤100000)(hL:L<x.2.length - D+k):Calls Tryz.prog 131 #[.pointer (some ⟨g,0,none⟩),.int .i64 k] w fun e w'=>e=.panicked (flt 5)∧Kept (Ch g q r0) w0 w':=by
 obtain⟨j,r,hr,i⟩:=h;exact(I.take_no i (k:=k) (by omega) hL).mono fun e w' o=>⟨o.1,j.trans o.2 (fun _ e=>e.elim)⟩
theorem byt_ext(s:ByteArray)(p n:Nat):(s.extract p (p+n)).data.toList=byt s p n:=by
 simp[byt,List.drop_take]
set_option maxHeartbeats 2000000 in
theorem stored_c(h:In w B g q r s D L x)(hs:s.size≤100000)(hL:L≤800000000)(hD:D≤100000000):
 Calls Tryz.prog 89 #[.pointer (some ⟨g,0,none⟩)] w (Out w B g q r s D L (stor s D L x) Nothing):=by
 obtain⟨cp,v3,v4,c0,c1,c2,c3,c4,cf,hy,hm⟩:=h.cells;have HA:=hid ((ralign_any' h.rd (by omega)).mono fun e w' (o:Got w B q s (.tuple #[]) (galign x.1) e w')=>(show e=.returned (.tuple #[])∧Res w B g q r s D L (8*((x.1+7) /8),x.2) w' from⟨o.1,kq o.2.2,r,.inl rfl,h.read o.2.2 o.2.1⟩));obtain⟨R,hR⟩:∃R,stor s D L x=R:=⟨_,rfl⟩
 rw[hR];unfold stor at hR;rw[bnd_of (show algn s D L x=.ok ((),(8*((x.1+7) /8),x.2)) from rfl)] at hR;obtain⟨x0,hx0⟩:∃x0:St,(8*((x.1+7) /8),x.2)=x0:=⟨_,rfl⟩
 rw[hx0] at HA hR;clear h hy hm c1 c2 c3 c4 cf hx0;cases h1:bits 16 s D L x0 with
 |error c=>
  rw[bnd_er h1] at hR;subst hR
  have HB:=hid (fun(W:World) (o:Res w B g q r s D L x0 W)=>(show Calls Tryz.prog 87 #[.pointer (some ⟨g,0,none⟩),.int .i64 16] W fun e w'=>e=.panicked (flt c)∧Kept (Ch g q r) w w' from by
   have:=o.lift (fun r i=>bits_c i hs 16 (by omega));rw[h1] at this;exact this))
  clear h1;go_enter Tryz.func89,Tryz.ntmps89
  go_wp2_with (first
   |(go_at_call 56;(with_reducible refine HA.out.mono ?_);rintro e w1 ⟨rfl,o1⟩;have O1:=hid o1;clear o1)
   |(go_at_call 87;(with_reducible refine(HB.out _ O1.out).mono ?_);rintro e w2 ⟨rfl,k2⟩;have K2:=hid k2;clear k2))
  exact⟨rfl,rfl,K2.out⟩
 |ok p=>
  obtain⟨n,x1⟩:=p;rw[bnd_of h1] at hR;obtain⟨hn,hx1⟩:=bits_lt h1 65536 (by decide)
  have HB:=hid (fun(W:World) (o:Res w B g q r s D L x0 W)=>(show Calls Tryz.prog 87 #[.pointer (some ⟨g,0,none⟩),.int .i64 16] W fun e w'=>e=.returned (.int .i64 n)∧Res w B g q r s D L x1 w' from by
   have:=o.lift (fun r i=>bits_c i hs 16 (by omega));rw[h1] at this;exact this))
  clear h1;cases h2:bits 16 s D L x1 with
  |error c=>
   rw[bnd_er h2] at hR;subst hR
   have HC:=hid (fun(W:World) (o:Res w B g q r s D L x1 W)=>(show Calls Tryz.prog 87 #[.pointer (some ⟨g,0,none⟩),.int .i64 16] W fun e w'=>e=.panicked (flt c)∧Kept (Ch g q r) w w' from by
    have:=o.lift (fun r i=>bits_c i hs 16 (by omega));rw[h2] at this;exact this))
   clear h2;go_enter Tryz.func89,Tryz.ntmps89
   go_wp2_with (first
    |(go_at_call 56;(with_reducible refine HA.out.mono ?_);rintro e w1 ⟨rfl,o1⟩;have O1:=hid o1;clear o1)
    |(go_at_call 87;(with_reducible refine(HB.out _ O1.out).mono ?_);rintro e w2 ⟨rfl,o2⟩;have O2:=hid o2;clear o2 O1)
    |(go_at_call 87;(with_reducible refine(HC.out _ O2.out).mono ?_);rintro e w3 ⟨rfl,k3⟩;have K3:=hid k3;clear k3))
   exact⟨rfl,rfl,K3.out⟩
  |ok p=>
   obtain⟨t,x2⟩:=p;rw[bnd_of h2] at hR;obtain⟨ht,hx2⟩:=bits_lt h2 65536 (by decide)
   have HC:=hid (fun(W:World) (o:Res w B g q r s D L x1 W)=>(show Calls Tryz.prog 87 #[.pointer (some ⟨g,0,none⟩),.int .i64 16] W fun e w'=>e=.returned (.int .i64 t)∧Res w B g q r s D L x2 w' from by
    have:=o.lift (fun r i=>bits_c i hs 16 (by omega));rw[h2] at this;exact this))
   clear h2;obtain⟨hxa,hxb⟩:=xor16 n (by omega);obtain⟨nn,hnn⟩:∃nn,65535 - n=nn:=⟨_,rfl⟩
   rw[hnn] at hxa hxb;have sg1:IntKind.u16.signed=false:=rfl;have mx1:IntKind.u16.max=65535:=rfl;by_cases hq:n+t≠65535
   · rw[if_pos hq] at hR
     subst hR;have d0:((t:Int) !=(nn:Int))=true:=by rw[bne_iff_ne];omega
     have d1:(t !=nn)=true:=by rw[bne_iff_ne];omega
     clear hq hnn;go_enter Tryz.func89,Tryz.ntmps89
     go_wp2_with (first
      |(go_at_call 56;(with_reducible refine HA.out.mono ?_);rintro e w1 ⟨rfl,o1⟩;have O1:=hid o1;clear o1)
      |(go_at_call 87;(with_reducible refine(HB.out _ O1.out).mono ?_);rintro e w2 ⟨rfl,o2⟩;have O2:=hid o2;clear o2 O1)
      |(go_at_call 87;(with_reducible refine(HC.out _ O2.out).mono ?_);rintro e w3 ⟨rfl,o3⟩;have O3:=hid o3;clear o3 O2)
      |(go_at_call 92;(with_reducible refine(fail_161 _).mono ?_);rintro e w4 ⟨rfl,k4⟩;have K4:=hid k4;clear k4))
     exact⟨rfl,rfl,O3.out.end_ K4.out⟩
   · rw[if_neg hq] at hR
     have d0:((t:Int) !=(nn:Int))=false:=by rw[bne_eq_false_iff_eq];omega
     have d1:(t !=nn)=false:=by rw[bne_eq_false_iff_eq];omega
     clear hq hnn;by_cases hf:(x2.1+7) /8+n≤s.size
     · have eb:byts n s D L x2=.ok (byt s ((x2.1+7) /8) n,(8*((x2.1+7) /8+n),x2.2)):=by unfold byts;rw[if_pos hf]
       rw[bnd_of eb] at hR
       have HD:=hid (fun(W:World) (o:Res w B g q r s D L x2 W)=>(show ∃q0,W.cell? ⟨g,0,none⟩=some (.pointer (some ⟨q0,0,none⟩))∧Calls Tryz.prog 130 #[.pointer (some ⟨q0,0,none⟩),.int .i64 n] W fun e w'=>e=.returned (.tuple #[.string (s.extract ((x2.1+7) /8) ((x2.1+7) /8+n)),.int .i64 0])∧Res w B g q r s D L (8*((x2.1+7) /8+n),x2.2) w' from by
        have:=bytes_c o hs n;simp only[if_pos hf] at this;exact this))
       have hbl:=byt_length hf;have hus:(s.extract ((x2.1+7) /8) ((x2.1+7) /8+n)).size=n:=by rw[ByteArray.size_extract];omega
       have hext:=byt_ext s ((x2.1+7) /8) n;obtain⟨TX,hTX⟩:∃TX,s.extract ((x2.1+7) /8) ((x2.1+7) /8+n)=TX:=⟨_,rfl⟩
       rw[hTX] at HD hus hext;rw[←hext] at hR
       have hap:app TX.data.toList s D L (8*((x2.1+7) /8+n),x2.2)=if L<x2.2.length - D+n then .error 5 else .ok ((),(8*((x2.1+7) /8+n),x2.2++TX.data.toList)):=by
        show(if L<x2.2.length - D+TX.data.toList.length then _ else _)=_
        rw[hext,hbl]
       obtain⟨x3,hx3⟩:∃x3:St,(8*((x2.1+7) /8+n),x2.2)=x3:=⟨_,rfl⟩
       have h32:x2.2=x3.2:=by rw[←hx3]
       have h31:8*((x2.1+7) /8+n)=x3.1:=by rw[←hx3]
       rw[hap,h32,h31] at hR;rw[hx3] at HD;clear hap eb hx3 hbl hext hTX h32 h31;by_cases hl:L<x3.2.length - D+n
       · rw[if_pos hl] at hR
         subst hR;have HT:=hid (fun(W:World) (o:Res w B g q r s D L x3 W)=>o.take_no (k:=n) (by omega) hl);clear hl hf;go_enter Tryz.func89,Tryz.ntmps89
         go_wp2_with (first
          |(go_at_call 56;(with_reducible refine HA.out.mono ?_);rintro e w1 ⟨rfl,o1⟩;have O1:=hid o1;clear o1)
          |(go_at_call 87;(with_reducible refine(HB.out _ O1.out).mono ?_);rintro e w2 ⟨rfl,o2⟩;have O2:=hid o2;clear o2 O1)
          |(go_at_call 87;(with_reducible refine(HC.out _ O2.out).mono ?_);rintro e w3 ⟨rfl,o3⟩;obtain⟨q0,d9,hB⟩:=HD.out _ o3;have HB9:=hid hB;clear o3 O2 hB)
          |(go_at_call 130;(with_reducible refine HB9.out.mono ?_);rintro e w4 ⟨rfl,o4⟩;have O4:=hid o4;clear o4)
          |(go_at_call 127;(with_reducible refine(check_ok _).mono ?_);rintro e w5 ⟨rfl,rfl⟩)
          |(go_at_call 131;(with_reducible refine(HT.out _ O4.out).mono ?_);rintro e w6 ⟨rfl,k6⟩;have K6:=hid k6;clear k6))
         exact⟨rfl,rfl,K6.out⟩
       · rw[if_neg hl] at hR
         subst hR;have HT:=hid (fun(W:World) (o:Res w B g q r s D L x3 W)=>o.take_str TX hL hD (by omega) (by rw[hus];exact hl));have hlM:(x3.2++TX.data.toList).length=x3.2.length+n:=by rw[List.length_append,←hus];exact congrArg _ Array.length_toList
         obtain⟨M,hM⟩:∃M,x3.2.length+n=M:=⟨_,rfl⟩
         rw[hM] at hlM;have HM:=hid hlM.symm;clear hlM hM;rw[hus] at HT;clear hl hf;go_enter Tryz.func89,Tryz.ntmps89
         go_wp2_with (first
          |(go_at_call 56;(with_reducible refine HA.out.mono ?_);rintro e w1 ⟨rfl,o1⟩;have O1:=hid o1;clear o1)
          |(go_at_call 87;(with_reducible refine(HB.out _ O1.out).mono ?_);rintro e w2 ⟨rfl,o2⟩;have O2:=hid o2;clear o2 O1)
          |(go_at_call 87;(with_reducible refine(HC.out _ O2.out).mono ?_);rintro e w3 ⟨rfl,o3⟩;obtain⟨q0,d9,hB⟩:=HD.out _ o3;have HB9:=hid hB;clear o3 O2 hB)
          |(go_at_call 130;(with_reducible refine HB9.out.mono ?_);rintro e w4 ⟨rfl,o4⟩;obtain⟨r9,cp9,N9,w9,u1,u2,u3,u4,u5,u6,u7,u8,u9⟩:=HT.out _ o4;have HT9:=hid u1;have HY:=hid u4;have HX:=hid u9;have HNe:=hid u8;have HN9:=hid u3;clear o4 u1 u3 u4 u8 u9)
          |(go_at_call 127;(with_reducible refine(check_ok _).mono ?_);rintro e w5 ⟨rfl,rfl⟩)
          |(go_at_call 131;(with_reducible refine HT9.out.mono ?_);rintro e w6 ⟨rfl,rfl⟩)
          |(at_builtin;refine wpList_ayM rfl (.tmp 40) (.tmp 41) rfl r9 N9 cp9 x3.2 rfl HY.out HN9.out TX rfl (by omega) M HM.out ?_;intro g' cp' w7 r2 gr4 o4;have HL4:=hid (HX.out w7 g' cp' M HM.out r2 gr4 o4);have w4b:=(gr4.block g u7 (by intro e;injection e with e;exact HNe.out e));have w4f:=(World.frozen?_of_block (a:=⟨g,1,none⟩) w4b).trans u6;have w4c:=(World.cell?_of_block (a:=⟨g,1,none⟩) w4b).trans u5;clear w4b r2 gr4 o4))
         go_end0;exact⟨rfl,HL4.out⟩
     · have eb:byts n s D L x2=.error 6:=by unfold byts;rw[if_neg hf]
       rw[bnd_er eb] at hR;subst hR
       have HD:=hid (fun(W:World) (o:Res w B g q r s D L x2 W)=>(show ∃q0,W.cell? ⟨g,0,none⟩=some (.pointer (some ⟨q0,0,none⟩))∧Calls Tryz.prog 130 #[.pointer (some ⟨q0,0,none⟩),.int .i64 n] W fun e w'=>e=.returned (.tuple #[.string ⟨#[]⟩,.int .i64 6])∧Kept (Ch g q r) w w' from by
        have:=bytes_c o hs n;simp only[if_neg hf] at this;exact this))
       clear eb hf;go_enter Tryz.func89,Tryz.ntmps89
       go_wp2_with (first
        |(go_at_call 56;(with_reducible refine HA.out.mono ?_);rintro e w1 ⟨rfl,o1⟩;have O1:=hid o1;clear o1)
        |(go_at_call 87;(with_reducible refine(HB.out _ O1.out).mono ?_);rintro e w2 ⟨rfl,o2⟩;have O2:=hid o2;clear o2 O1)
        |(go_at_call 87;(with_reducible refine(HC.out _ O2.out).mono ?_);rintro e w3 ⟨rfl,o3⟩;obtain⟨q0,d9,hB⟩:=HD.out _ o3;have HB9:=hid hB;clear o3 O2 hB)
        |(go_at_call 130;(with_reducible refine HB9.out.mono ?_);rintro e w4 ⟨rfl,k4⟩;have K4:=hid k4;clear k4)
        |(go_at_call 127;(with_reducible refine(check_6 _).mono ?_);rintro e w5 ⟨rfl,k5⟩;have K5:=hid k5;clear k5))
       exact⟨rfl,rfl,K4.out.trans K5.out (fun _ e=>e.elim)⟩
end
end Go.Proofs.YtdpabanajgegjaaGreatDoor.I
