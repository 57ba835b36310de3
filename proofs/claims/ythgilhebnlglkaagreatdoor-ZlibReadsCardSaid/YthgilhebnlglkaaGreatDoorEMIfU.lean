import Derived.Test.YthgilhebnlglkaaGreatDoorEIfT
import Derived.Test.YthgilhebnlglkaaGreatDoorEMBlA
import Derived.Test.YthgilhebnlglkaaGreatDoorEJdC
set_option linter.all false
set_option maxHeartbeats 8000000
set_option maxRecDepth 1000000
open Go.Proofs.Tryz
namespace Go.Proofs.YthgilhebnlglkaaGreatDoor.I
open Go Go.RowKit M
def TB(B:Nat)(w:World):Prop:=∀w',Below B w w'->V.Tabs w'
theorem TB.here{B:Nat}{w:World}(h:TB B w):V.Tabs w:=h w (Below.refl _ _)
theorem TB.go{B:Nat}{w w':World}(h:TB B w)(hb:Below B w w'):TB B w':=λw'' b=>h w'' (hb.trans b)
section
variable {w:World} {B g q r D L:Nat} {s:ByteArray} {x:St}
theorem In.bl(h:In w B g q r s D L x){w':World}(hk:Kept (Ch g q r) w w'):Below B w w':=
 hk.below (by have:=h.gb;have:=h.glt;omega) λj hj=>by
  rcases hj with e|e|e
  · rw[e];exact h.gb
  · rw[e];exact h.rd.base
  · rw[e];exact h.rb
theorem In.tbs(h:In w B g q r s D L x){w':World}(hb:Below w.heap.size w w'):Below B w w':=hb.mono (by have:=h.gb;have:=h.glt;omega)
def z9v(bz:Nat)(v:Nat->Nat):Rm Nat:=bnd (bits bz) λe=>if v e=0 then fl 163 else pur (v e)
theorem zfv(h:In w B g q r s D L x)(hs:s.size<=100000)(ht:TB B w)(y bz:Nat)(b1:Bool)(v:Nat->Nat)(hbz:bz<=13)(hv:∀e,v e<=32768)
 (hb:∀w',V.Tabs w'->Calls prog 217 #[.int .i64 y] w' λe w2=>e=.returned (.tuple #[.int .i64 bz,.bool b1])/\Below w'.heap.size w' w2)
 (ho:∀e w',V.Tabs w'->Calls prog 218 #[.int .i64 y,.int .u32 (e:Nat)] w' λz w2=>z=.returned (.tuple #[.int .i64 (v e:Nat),.bool (decide (0<v e))])/\Below w'.heap.size w' w2):
 Calls prog 216 #[.pointer (some ⟨g,0,none⟩),.int .i64 y,.func (.func 217) #[] #[],.func (.func 218) #[] #[]] w (Out w B g q r s D L (z9v bz v s D L x) z0h):=by
 have HI:=qH h;have HT:=qH (λ(w':World) (hb:Below B w w')=>(show V.Tabs w' from ht w' hb));have HB:=qH (hb w ht.here);have HN:=qH (λ(w':World) (hw:In w' B g q r s D L x)=>z17 hw hs bz (by omega));by_cases hf:x.1+bz<=8*s.size
 · have e:bits bz s D L x=.ok (M.nb s x.1 bz,(x.1+bz,x.2)):=by unfold bits;rw[if_pos hf]
   rw[e] at HN;have hlt:M.nb s x.1 bz<=8191:=by
    have h1:=M.nb_lt s x.1 bz;have h2:2^bz<=2^13:=Nat.pow_le_pow_right (by decide) hbz;omega
   have er:z9v bz v s D L x=if v (M.nb s x.1 bz)=0 then .error 163 else .ok (v (M.nb s x.1 bz),(x.1+bz,x.2)):=by
    unfold z9v;rw[z00 e]
    split<;>rfl
   rw[er];generalize hz:M.nb s x.1 bz=z at HN hlt ⊢;have hvz:=hv z;have HO:=qH (λw' hw=>ho z w' hw);generalize hk:v z=k at HO hvz ⊢;by_cases hk0:k=0
   · subst hk0
     rw[if_pos rfl];have HO':=qH (show ∀w',V.Tabs w'->Calls prog 218 #[.int .i64 y,.int .u32 (z:Nat)] w' λz w2=>z=.returned (.tuple #[.int .i64 0,.bool false])/\Below w'.heap.size w' w2 from HO.o);clear h ht hb ho e er hf hz hk HO hv;go_enter func216,ntmps216
     go_wp2_with (first
      |(go_at_call 217;(with_reducible refine HB.o.mono ?_);rintro e w1 ⟨rfl,b1⟩;have B1:=qH b1;clear b1)
      |(go_at_call 166;(with_reducible refine(HN.o _ (HI.o.below B1.o)).mono ?_);rintro e w2 ⟨q1,q2⟩;unfold z0h at q1;subst q1;have Q2:=qH q2;clear q2)
      |(go_at_call 218;(with_reducible refine(HO'.o _ (HT.o _ ((HI.o.tbs B1.o).trans ((HI.o.below B1.o).bl Q2.o.kept)))).mono ?_);rintro e w3 ⟨rfl,b3⟩;have B3:=qH b3;clear b3)
      |(go_at_call 171;(with_reducible refine(z4I _).mono ?_);rintro e w4 ⟨rfl,k4⟩;have K4:=qH k4;clear k4))
     exact⟨rfl,rfl,((((Kept.of_below B1.o).none _).trans Q2.o.kept (λ_ e=> .inl e)).trans (Kept.of_below B3.o) (λ_ e=>e.elim)).trans K4.o (λ_ e=>e.elim)⟩
   · rw[if_neg hk0]
     have d0:decide (0<k)=true:=q9T (by omega);rw[d0] at HO;clear h ht hb ho e er hf hz hk d0 hk0 hv;go_enter func216,ntmps216
     go_wp2_with (first
      |(go_at_call 217;(with_reducible refine HB.o.mono ?_);rintro e w1 ⟨rfl,b1⟩;have B1:=qH b1;clear b1)
      |(go_at_call 166;(with_reducible refine(HN.o _ (HI.o.below B1.o)).mono ?_);rintro e w2 ⟨q1,q2⟩;unfold z0h at q1;subst q1;have Q2:=qH q2;clear q2)
      |(go_at_call 218;(with_reducible refine(HO.o _ (HT.o _ ((HI.o.tbs B1.o).trans ((HI.o.below B1.o).bl Q2.o.kept)))).mono ?_);rintro e w3 ⟨rfl,b3⟩;have B3:=qH b3;clear b3))
     go_ret;obtain⟨k2,r2,hr2,i2⟩:=Q2.o;exact⟨rfl,(((Kept.of_below B1.o).none _).trans k2 (λ_ e=> .inl e)).trans (Kept.of_below B3.o) (λ_ e=>e.elim),r2,hr2.imp id (λe=>qK B1.o.size e),i2.below B3.o⟩
 · have e:bits bz s D L x=.error 6:=by unfold bits;rw[if_neg hf]
   rw[e] at HN;have er:z9v bz v s D L x=.error 6:=z03 e;rw[er];clear h ht hb ho e er hf hv;go_enter func216,ntmps216
   go_wp2_with (first
    |(go_at_call 217;(with_reducible refine HB.o.mono ?_);rintro e w1 ⟨rfl,b1⟩;have B1:=qH b1;clear b1)
    |(go_at_call 166;(with_reducible refine(HN.o _ (HI.o.below B1.o)).mono ?_);rintro e w2 ⟨q1,q2⟩;subst q1;have Q2:=qH q2;clear q2))
   exact⟨rfl,rfl,((Kept.of_below B1.o).none _).trans Q2.o (λ_ e=> .inl e)⟩
theorem zfE(h:In w B g q r s D L x)(hs:s.size<=100000)(ht:TB B w)(y bz:Nat)(b1:Bool)(v:Nat->Nat)(hbz:bz<=13)(hv:∀e,v e<=32768)
 (hb:∀w',V.Tabs w'->Calls prog 220 #[.int .i64 y] w' λe w2=>e=.returned (.tuple #[.int .i64 bz,.bool b1])/\Below w'.heap.size w' w2)
 (ho:∀e w',V.Tabs w'->Calls prog 221 #[.int .i64 y,.int .u32 (e:Nat)] w' λz w2=>z=.returned (.tuple #[.int .i64 (v e:Nat),.bool (decide (0<v e))])/\Below w'.heap.size w' w2):
 Calls prog 216 #[.pointer (some ⟨g,0,none⟩),.int .i64 y,.func (.func 220) #[] #[],.func (.func 221) #[] #[]] w (Out w B g q r s D L (z9v bz v s D L x) z0h):=by
 have HI:=qH h;have HT:=qH (λ(w':World) (hb:Below B w w')=>(show V.Tabs w' from ht w' hb));have HB:=qH (hb w ht.here);have HN:=qH (λ(w':World) (hw:In w' B g q r s D L x)=>z17 hw hs bz (by omega));by_cases hf:x.1+bz<=8*s.size
 · have e:bits bz s D L x=.ok (M.nb s x.1 bz,(x.1+bz,x.2)):=by unfold bits;rw[if_pos hf]
   rw[e] at HN;have hlt:M.nb s x.1 bz<=8191:=by
    have h1:=M.nb_lt s x.1 bz;have h2:2^bz<=2^13:=Nat.pow_le_pow_right (by decide) hbz;omega
   have er:z9v bz v s D L x=if v (M.nb s x.1 bz)=0 then .error 163 else .ok (v (M.nb s x.1 bz),(x.1+bz,x.2)):=by
    unfold z9v;rw[z00 e]
    split<;>rfl
   rw[er];generalize hz:M.nb s x.1 bz=z at HN hlt ⊢;have hvz:=hv z;have HO:=qH (λw' hw=>ho z w' hw);generalize hk:v z=k at HO hvz ⊢;by_cases hk0:k=0
   · subst hk0
     rw[if_pos rfl];have HO':=qH (show ∀w',V.Tabs w'->Calls prog 221 #[.int .i64 y,.int .u32 (z:Nat)] w' λz w2=>z=.returned (.tuple #[.int .i64 0,.bool false])/\Below w'.heap.size w' w2 from HO.o);clear h ht hb ho e er hf hz hk HO hv;go_enter func216,ntmps216
     go_wp2_with (first
      |(go_at_call 220;(with_reducible refine HB.o.mono ?_);rintro e w1 ⟨rfl,b1⟩;have B1:=qH b1;clear b1)
      |(go_at_call 166;(with_reducible refine(HN.o _ (HI.o.below B1.o)).mono ?_);rintro e w2 ⟨q1,q2⟩;unfold z0h at q1;subst q1;have Q2:=qH q2;clear q2)
      |(go_at_call 221;(with_reducible refine(HO'.o _ (HT.o _ ((HI.o.tbs B1.o).trans ((HI.o.below B1.o).bl Q2.o.kept)))).mono ?_);rintro e w3 ⟨rfl,b3⟩;have B3:=qH b3;clear b3)
      |(go_at_call 171;(with_reducible refine(z4I _).mono ?_);rintro e w4 ⟨rfl,k4⟩;have K4:=qH k4;clear k4))
     exact⟨rfl,rfl,((((Kept.of_below B1.o).none _).trans Q2.o.kept (λ_ e=> .inl e)).trans (Kept.of_below B3.o) (λ_ e=>e.elim)).trans K4.o (λ_ e=>e.elim)⟩
   · rw[if_neg hk0]
     have d0:decide (0<k)=true:=q9T (by omega);rw[d0] at HO;clear h ht hb ho e er hf hz hk d0 hk0 hv;go_enter func216,ntmps216
     go_wp2_with (first
      |(go_at_call 220;(with_reducible refine HB.o.mono ?_);rintro e w1 ⟨rfl,b1⟩;have B1:=qH b1;clear b1)
      |(go_at_call 166;(with_reducible refine(HN.o _ (HI.o.below B1.o)).mono ?_);rintro e w2 ⟨q1,q2⟩;unfold z0h at q1;subst q1;have Q2:=qH q2;clear q2)
      |(go_at_call 221;(with_reducible refine(HO.o _ (HT.o _ ((HI.o.tbs B1.o).trans ((HI.o.below B1.o).bl Q2.o.kept)))).mono ?_);rintro e w3 ⟨rfl,b3⟩;have B3:=qH b3;clear b3))
     go_ret;obtain⟨k2,r2,hr2,i2⟩:=Q2.o;exact⟨rfl,(((Kept.of_below B1.o).none _).trans k2 (λ_ e=> .inl e)).trans (Kept.of_below B3.o) (λ_ e=>e.elim),r2,hr2.imp id (λe=>qK B1.o.size e),i2.below B3.o⟩
 · have e:bits bz s D L x=.error 6:=by unfold bits;rw[if_neg hf]
   rw[e] at HN;have er:z9v bz v s D L x=.error 6:=z03 e;rw[er];clear h ht hb ho e er hf hv;go_enter func216,ntmps216
   go_wp2_with (first
    |(go_at_call 220;(with_reducible refine HB.o.mono ?_);rintro e w1 ⟨rfl,b1⟩;have B1:=qH b1;clear b1)
    |(go_at_call 166;(with_reducible refine(HN.o _ (HI.o.below B1.o)).mono ?_);rintro e w2 ⟨q1,q2⟩;subst q1;have Q2:=qH q2;clear q2))
   exact⟨rfl,rfl,((Kept.of_below B1.o).none _).trans Q2.o (λ_ e=> .inl e)⟩
theorem zhf(y:Nat):lenR y=z9v (if y<=285 then lb (y - 257) else 0) (λe=>if y<=285 then lof (y - 257) e else 0):=by
 funext s D L x;unfold lenR z9v;by_cases h:y<=285
 · simp only[if_pos h]
   congr 1;funext e;by_cases q:lof (y - 257) e=0
   · rw[if_pos (.inr q),if_pos q]
   · rw[if_neg (by omega),if_neg q]
 · simp only[if_neg h]
   congr 1;funext e;rw[if_pos (.inl (by omega)),if_pos trivial]
theorem zhu(y:Nat):dstR y=z9v (if y<=29 then db y else 0) (λe=>if y<=29 then dof y e else 0):=by
 funext s D L x;unfold dstR z9v;by_cases h:y<=29
 · simp only[if_pos h]
   congr 1;funext e;by_cases q:dof y e=0
   · rw[if_pos (.inr q),if_pos q]
   · rw[if_neg (by omega),if_neg q]
 · simp only[if_neg h]
   congr 1;funext e;rw[if_pos (.inl (by omega)),if_pos trivial]
theorem zb9(i e:Nat):lof i e<=258:=by
 by_cases h:lof i e=0
 · omega
 · have:=(zh8 h).2.2.2.2.2;omega
theorem zbL(i e:Nat):dof i e<=32768:=by
 by_cases h:dof i e=0
 · omega
 · have:=(zhv h).2.2.2.2.2;omega
theorem zk9(h:In w B g q r s D L x)(hs:s.size<=100000)(ht:TB B w)(y:Nat)(hy:257<=y):
 Calls prog 216 #[.pointer (some ⟨g,0,none⟩),.int .i64 y,.func (.func 217) #[] #[],.func (.func 218) #[] #[]] w (Out w B g q r s D L (lenR y s D L x) z0h):=by
 rw[zhf];by_cases h5:y<=285
 · simp only[if_pos h5]
   refine zfv h hs ht y _ true _ (by have:=zdY (y - 257) (by omega);omega) (λe=>by have:=zb9 (y - 257) e;omega) (λw' hT=>Y.lbits_yes (y - 257) y w' hT.2 (by omega) (by omega)) (λe w' hT=>Y.lengthOf_yes (y - 257) e y w' hT.2 (by omega) (by omega))
 · simp only[if_neg h5]
   exact zfv h hs ht y 0 false (λ_=>0) (by omega) (λ_=>by omega) (λw' hT=>Y.lbits_no y w' hT.2 (by omega)) (λe w' hT=>Y.lengthOf_no y e w' hT.2 (by omega))
theorem zkj(h:In w B g q r s D L x)(hs:s.size<=100000)(ht:TB B w)(y:Nat):
 Calls prog 216 #[.pointer (some ⟨g,0,none⟩),.int .i64 y,.func (.func 220) #[] #[],.func (.func 221) #[] #[]] w (Out w B g q r s D L (dstR y s D L x) z0h):=by
 rw[zhu];by_cases h5:y<=29
 · simp only[if_pos h5]
   refine zfE h hs ht y _ true _ (by have:=zer y h5;omega) (λe=>zbL y e) (λw' hT=>Y.dbits_yes y y w' hT.2 h5 rfl) (λe w' hT=>Y.distOf_yes y e y w' hT.2 h5 rfl)
 · simp only[if_neg h5]
   exact zfE h hs ht y 0 false (λ_=>0) (by omega) (λ_=>by omega) (λw' hT=>Y.dbits_no y w' hT.2 (by omega)) (λe w' hT=>Y.distOf_no y e w' hT.2 (by omega))
end
def plc(q:Nat)(w:World):Nat:=match w.cell? ⟨q,2,none⟩ with
 |some (.int _ a)=>a.toNat
 |_=>0
theorem In.plc{w:World}{B g q r D L:Nat}{s:ByteArray}{x:St}(h:In w B g q r s D L x):I.plc q w=x.1:=by
 unfold I.plc;rw[h.rd.c2];rfl
theorem Tb.go{w w':World}{B g q r r' D L p n:Nat}{s:ByteArray}{x:St}{l:Nat->Nat}(h:In w B g q r s D L x)(ht:Tb w r p l n)(hk:Kept (Ch g q r) w w')(hr:r'=r\/w.heap.size<=r'):Tb w' r' p l n:=
 (h.tb ht hk).row (by
  have:=ht.lt;rcases hr with e|e
  · rw[e];exact ht.ne
  · omega)
structure SS(w0:World)(r0 B g q:Nat)(s:ByteArray)(D L b p1 p2:Nat)(l:Nat->Nat)(n:Nat)(d:Nat->Nat)(m:Nat)(x:St)(w:World):Prop where
 ex:∃r,In w B g q r s D L x/\(r=r0\/w0.heap.size<=r)/\Tb w r p1 l n/\Tb w r p2 d m
 kp:Kept (Ch g q r0) w0 w
 bx:w.heap[b]? =some (.cells #[.pointer (some ⟨p1,0,none⟩),.pointer (some ⟨p2,0,none⟩)] 177 (0,0))
 tb:TB B w
def OS{α:Type}(w0:World)(r0 B g q:Nat)(s:ByteArray)(D L b p1 p2:Nat)(l:Nat->Nat)(n:Nat)(d:Nat->Nat)(m:Nat)(res:Except Nat (α×St))(V:α->Ending->World->Prop)(e:Ending)(w':World):Prop:=
 match res with
 |.ok p=>V p.1 e w'/\SS w0 r0 B g q s D L b p1 p2 l n d m p.2 w'
 |.error c=>e=.panicked (flt c)/\Kept (Ch g q r0) w0 w'
section
variable {w0 w:World} {r0 B g q D L b p1 p2 n m:Nat} {s:ByteArray} {l d:Nat->Nat} {x:St}
theorem SS.cells(h:SS w0 r0 B g q s D L b p1 p2 l n d m x w):w.cell? ⟨b,0,none⟩=some (.pointer (some ⟨p1,0,none⟩))/\w.cell? ⟨b,1,none⟩=some (.pointer (some ⟨p2,0,none⟩)):=by
 constructor<;>simp[World.cell?,h.bx]
theorem z72{w:World}{j k:Nat}{c c':Array Value}{t t':TypeId}{f f':Nat×Nat}(h:w.heap[j]? =some (.cells c t f))(h':w.heap[k]? =some (.cells c' t' f'))(ht:t≠t'):j≠k:=by
 intro e;subst e;rw[h] at h';injection h' with h'
 injection h' with _ h' _
 exact ht h'
theorem SS.step(h:SS w0 r0 B g q s D L b p1 p2 l n d m x w){r:Nat}(hI:In w B g q r s D L x)(hr:r=r0\/w0.heap.size<=r)(h1:Tb w r p1 l n)(h2:Tb w r p2 d m){w':World}{y:St}(k:Res w B g q r s D L y w'):SS w0 r0 B g q s D L b p1 p2 l n d m y w':=by
 obtain⟨k1,r',k2,k3⟩:=k;have hs:=h.kp.size;refine⟨⟨r',k3,?_,Tb.go hI h1 k1 k2,Tb.go hI h2 k1 k2⟩,Kept.ch_trans h.kp k1 hr,?_,h.tb.go (hI.bl k1)⟩
 · rcases k2 with e|e
   · rw[e];exact hr
   · exact .inr (by omega)
 · have hb:=(qW.1 h.bx).1
   refine(k1.block b hb (λe=> ?_)).trans h.bx;obtain⟨cp,v3,v4,g1,g2,g3⟩:=hI.row;obtain⟨c,fz,g4⟩:=g2.typ;rcases e with e|e|e
   · exact z72 h.bx g1 (by decide) e
   · have:=hI.rd.c0
     rw[<-e,h.cells.1] at this;cases this
   · exact z72 h.bx g4 (by decide) e
theorem SS.lift{α:Type}(h:SS w0 r0 B g q s D L b p1 p2 l n d m x w){r:Nat}(hI:In w B g q r s D L x)(hr:r=r0\/w0.heap.size<=r)(h1:Tb w r p1 l n)(h2:Tb w r p2 d m){f:Nat}{args:Array Value}{res:Except Nat (α×St)}{V:α->Ending->World->Prop}
 (c:Calls prog f args w (Out w B g q r s D L res V)):Calls prog f args w (OS w0 r0 B g q s D L b p1 p2 l n d m res V):=by
 refine c.mono λe w' o=> ?_
 cases res with
 |ok p=>exact⟨o.1,h.step hI hr h1 h2 o.2⟩
 |error c=>exact⟨o.1,Kept.ch_trans h.kp o.2 hr⟩
theorem SS.next1(h:SS w0 r0 B g q s D L b p1 p2 l n d m x w)(hs:s.size<=100000):Calls prog 215 #[.pointer (some ⟨g,0,none⟩),.pointer (some ⟨p1,0,none⟩)] w (OS w0 r0 B g q s D L b p1 p2 l n d m (nxt l n s D L x) z0h):=by
 obtain⟨r,i,hr,t1,t2⟩:=h.ex;exact h.lift i hr t1 t2 (zaV i hs t1)
theorem SS.next2(h:SS w0 r0 B g q s D L b p1 p2 l n d m x w)(hs:s.size<=100000):Calls prog 215 #[.pointer (some ⟨g,0,none⟩),.pointer (some ⟨p2,0,none⟩)] w (OS w0 r0 B g q s D L b p1 p2 l n d m (nxt d m s D L x) z0h):=by
 obtain⟨r,i,hr,t1,t2⟩:=h.ex;exact h.lift i hr t1 t2 (zaV i hs t2)
theorem SS.len(h:SS w0 r0 B g q s D L b p1 p2 l n d m x w)(hs:s.size<=100000)(y:Nat)(hy:257<=y):Calls prog 216 #[.pointer (some ⟨g,0,none⟩),.int .i64 y,.func (.func 217) #[] #[],.func (.func 218) #[] #[]] w (OS w0 r0 B g q s D L b p1 p2 l n d m (lenR y s D L x) z0h):=by
 obtain⟨r,i,hr,t1,t2⟩:=h.ex;exact h.lift i hr t1 t2 (zk9 i hs h.tb y hy)
theorem SS.dst(h:SS w0 r0 B g q s D L b p1 p2 l n d m x w)(hs:s.size<=100000)(y:Nat):Calls prog 216 #[.pointer (some ⟨g,0,none⟩),.int .i64 y,.func (.func 220) #[] #[],.func (.func 221) #[] #[]] w (OS w0 r0 B g q s D L b p1 p2 l n d m (dstR y s D L x) z0h):=by
 obtain⟨r,i,hr,t1,t2⟩:=h.ex;exact h.lift i hr t1 t2 (zkj i hs h.tb y)
theorem SS.match(h:SS w0 r0 B g q s D L b p1 p2 l n d m x w)(t k:Nat)(ht:1<=t/\t<=32768)(hk:k<=258)(hL:L<=800000000)(hD:D<=100000000):
 Calls prog 219 #[.pointer (some ⟨g,0,none⟩),.int .i64 k,.int .i64 t] w (OS w0 r0 B g q s D L b p1 p2 l n d m (copy t k s D L x) z1G):=by
 obtain⟨r,i,hr,t1,t2⟩:=h.ex;exact h.lift i hr t1 t2 (zh3 i t k ht hk (by omega) (by have:=i.ll;omega))
theorem SS.take_no(h:SS w0 r0 B g q s D L b p1 p2 l n d m x w)(hL:L<x.2.length - D+1):Calls prog 212 #[.pointer (some ⟨g,0,none⟩),.int .i64 1] w λe w'=>e=.panicked (flt 5)/\Kept (Ch g q r0) w0 w':=by
 obtain⟨r,i,hr,t1,t2⟩:=h.ex;exact(I.take_no i (k:=1) (by omega) hL).mono λe w' o=>⟨o.1,h.kp.trans o.2 (λ_ e=>e.elim)⟩
theorem SS.take_yes(h:SS w0 r0 B g q s D L b p1 p2 l n d m x w)(u:UInt8)(hL0:L<=800000000)(hD:D<=100000000)(hL:¬L<x.2.length - D+1):∃ (r cp N:Nat) (w1:World),Calls prog 212 #[.pointer (some ⟨g,0,none⟩),.int .i64 1] w (λe w'=>e=.returned (.tuple #[])/\w'=w1)/\
 N<=900000000/\x.2.length=N/\Ry w1 r cp x.2/\w1.cell? ⟨g,1,none⟩=some (.slice (some ⟨r,0,none⟩) N cp)/\w1.frozen? ⟨g,1,none⟩=false/\g<w1.heap.size/\g≠r/\
 ∀ (w2 w3:World) (g' cp':Nat),Kept NoB w1 w2->Ry w3 g' cp' (x.2++[u])->w2.grownBy w3 (some r)->(g'=r\/w2.heap.size<=g')->SS w0 r0 B g q s D L b p1 p2 l n d m (x.1,x.2++[u]) (w3.setCell ⟨g,1,none⟩ (.slice (some ⟨g',0,none⟩) (N+1) cp')):=by
 obtain⟨r,i,hr,t1,t2⟩:=h.ex;have hT:=I.take_yes i (k:=1) (by omega) hL;obtain⟨cp0,hir⟩:=i.ir;obtain⟨hir1,hk1⟩:=hir.setZ ((L:Int) - ((x.2.length - D+1:Nat):Int));have hdl:=i.dl;have hc:=hir1.cells;refine⟨r,cp0,x.2.length,_,hT,by omega,rfl,hir1.ry,hc.2.1,hc.2.2 1,hir1.glt,hir1.gr,λw2 w3 g' cp' h2 h3 h4 h5=> ?_⟩;obtain⟨j1,j2,j3⟩:=hir1.app h2 h3 h4 h5 (n:=x.2.length+1) (by simp);have hk:Kept (Ch g q r) w (w3.setCell ⟨g,1,none⟩ (.slice (some ⟨g',0,none⟩) (x.2.length+1) cp')):=Kept.ch_trans (hk1.mono λj e=> .inl e) j2 (.inl rfl);have hs:=hk1.size;refine h.step i hr t1 t2 ⟨hk,g',j3.imp id (λe=>by omega),j1.in_ (by simp only[qA,List.length_singleton];omega) (by simp only[qA];omega) (by simp only[qA,List.length_singleton];omega)⟩
end
section
variable {w:World} {B g q r D L p1 p2 n m:Nat} {s:ByteArray} {l d:Nat->Nat} {x:St}
theorem SS.new(h:In w B g q r s D L x)(ht:TB B w)(t1:Tb w r p1 l n)(t2:Tb w r p2 d m):SS w r B g q s D L w.heap.size p1 p2 l n d m x (w.alloc (.cells #[.pointer (some ⟨p1,0,none⟩),.pointer (some ⟨p2,0,none⟩)] 177)):=by
 have hk:Kept NoB w (w.alloc (.cells #[.pointer (some ⟨p1,0,none⟩),.pointer (some ⟨p2,0,none⟩)] 177)):=(Kept.refl _ _).alloc _;refine⟨⟨r,h.same hk,.inl rfl,t1.kept h.byt hk (λ_ e=>e.elim),t2.kept h.byt hk (λ_ e=>e.elim)⟩,hk.none _,heap_alloc_new _ _,ht.go (h.bl (hk.none _))⟩
theorem zhe{y k:Nat}{z:St}(h:lenR y s D L x=.ok (k,z)):k<=258:=by
 unfold lenR at h;obtain⟨e,y1,h1,h2⟩:=z0a h
 split at h2
 · cases h2
 · cases h2
   exact zb9 _ _
theorem zht{y k:Nat}{z:St}(h:dstR y s D L x=.ok (k,z)):1<=k/\k<=32768:=by
 unfold dstR at h;obtain⟨e,y1,h1,h2⟩:=z0a h
 split at h2
 · cases h2
 · rename_i q
   cases h2
   have:=zbL y e;omega
theorem zgX{z:St}{y:Nat}(h:nxt l n s D L x=.ok (y,z))(hx:x.1<=8*s.size):y<320/\x.1<z.1/\z.1<=8*s.size:=by
 obtain⟨h1,h2,h3,h4,h5,rfl⟩:=z15 h hx;have:=h1.fit.1.1;exact⟨by omega,by simp only;omega,h4⟩
theorem za2(h:In w B g q r s D L x)(hs:s.size<=100000)(ht:TB B w)(t1:Tb w r p1 l n)(t2:Tb w r p2 d m)(K:Nat)(hK:8*s.size - x.1<K)(hL:L<=800000000)(hD:D<=100000000):
 Calls prog 170 #[.pointer (some ⟨g,0,none⟩),.agg #[.pointer (some ⟨p1,0,none⟩),.pointer (some ⟨p2,0,none⟩)]] w (Out w B g q r s D L (syms K l n d m s D L x) z1G):=by
 have hs0:=SS.new h ht t1 t2;generalize hR:syms K l n d m s D L x=R;unfold syms at hR;generalize hb:w.heap.size=b at hs0;obtain⟨HS,HR⟩:=qh2 hs0 hR;clear h ht t1 t2 hs0 hR;go_enter func170,ntmps170;go_wp2_with fail
 go_loopw [4] (λi wr=> ∃k x',SS w r B g q s D L b p1 p2 l n d m x' wr/\8*s.size - x'.1<k/\loopR (sym1 l n d m) k () s D L x'=R) (λ_ wr=>8*s.size - plc q wr)
 case atStart=>exact⟨K,x,HS.o,hK,HR.o⟩
 case round=>
  obtain⟨k,x',hS,hk,hR⟩:=hrel;clear HS HR;obtain⟨k,rfl⟩:∃j,k=j+1:=⟨k - 1,by omega⟩
  have hle:x'.1<=8*s.size/\plc q wr=x'.1:=(by obtain⟨r',i,_⟩:=hS.ex;exact⟨i.rd.le,i.plc⟩);obtain⟨c0,c1⟩:=hS.cells;have HS:=qH hS;have HN:=qH (hS.next1 hs);clear hS;cases hn:nxt l n s D L x' with
  |error c=>
   obtain rfl:R=.error c:=by rw[<-hR];exact z0f (z03 hn)
   rw[hn] at HN;clear hR hn hk hle c1;go_wp2_with (go_at_call 215;(with_reducible refine HN.o.mono ?_);rintro e w1 ⟨rfl,k1⟩;have K1:=qH k1;clear k1);exact⟨rfl,rfl,K1.o⟩
  |ok p=>
   obtain⟨y,x1⟩:=p;rw[hn] at HN;obtain⟨hy,hx1,hx1l⟩:=zgX hn hle.1;by_cases hy1:y<256
   · have es:sym1 l n d m () s D L x'=if L<x1.2.length - D+1 then .error 5 else .ok (.inl (),(x1.1,x1.2++[UInt8.ofNat y])):=by
      unfold sym1;rw[z00 hn,if_pos hy1];have ha:app [UInt8.ofNat y] s D L x1=if L<x1.2.length - D+1 then .error 5 else .ok ((),(x1.1,x1.2++[UInt8.ofNat y])):=rfl;by_cases q:L<x1.2.length - D+1
      · rw[if_pos q] at ha ⊢
        exact z03 ha
      · rw[if_neg q] at ha ⊢
        rw[z00 ha];rfl
     by_cases hl:L<x1.2.length - D+1
     · rw[if_pos hl] at es
       obtain rfl:R=.error 5:=by rw[<-hR];exact z0f es
       clear hR hn hk hle c1 es
       go_wp2_with (first
        |(go_at_call 215;(with_reducible refine HN.o.mono ?_);rintro e w1 ⟨q1,q2⟩;unfold z0h at q1;subst q1;have HT:=qH (q2.take_no hl);clear q2)
        |(go_at_call 212;(with_reducible refine HT.o.mono ?_);rintro e w2 ⟨rfl,k2⟩;have K2:=qH k2;clear k2))
       exact⟨rfl,rfl,K2.o⟩
     · rw[if_neg hl] at es
       have hgo:=(z1d (k:=k) es).symm.trans hR;have HG:=qH hgo;have hkk:8*s.size - x1.1<k:=(by omega);have hu:((UInt8.ofNat y).toNat:Int)=(y:Int):=(by rw[UInt8.toNat_ofNat'];omega);clear hR hn es hgo c1 hk
       go_wp2_with (first
        |(go_at_call 215;(with_reducible refine HN.o.mono ?_);rintro e w1 ⟨q1,q2⟩;unfold z0h at q1;subst q1;obtain⟨r9,cp9,N9,w9,u1,u2,u3,u4,u5,u6,u7,u8,u9⟩:=q2.take_yes (UInt8.ofNat y) hL hD hl;obtain⟨HT,HY,HX,HNe,HN9⟩:=qh5 u1 u4 u9 u8 u3;clear q2 u1 u3 u4 u8 u9)
        |(go_at_call 212;(with_reducible refine HT.o.mono ?_);rintro e w2 ⟨rfl,rfl⟩)
        |(at_builtin;refine z3L rfl (.tmp 31) (.tmp 34) rfl r9 N9 cp9 x1.2 rfl (HY.o.of_block (Below.heap_alloc _ _ _ HY.o.lt)) HN9.o ⟨w2.heap.size,0,none⟩ 1 (UInt8.ofNat y) rfl (by rw[hu];simp) (by omega) ?_;intro g' cp' w4 r2 gr4 o4;have HL4:=qH (HX.o _ w4 g' cp' ((Kept.refl NoB w2).alloc _) r2 gr4 o4);have w4b:=(gr4.block g (by simp;omega) (by intro e;injection e with e;exact HNe.o e));have w4f:=(World.frozen?_of_block (a:=⟨g,1,none⟩) w4b).trans ((World.frozen?_of_block (a:=⟨g,1,none⟩) (Below.heap_alloc _ _ _ u7)).trans u6);have w4c:=(World.cell?_of_block (a:=⟨g,1,none⟩) w4b).trans ((World.cell?_of_block (a:=⟨g,1,none⟩) (Below.heap_alloc _ _ _ u7)).trans u5);clear w4b r2 gr4 o4))
       go_roundw
       case rel=>exact⟨k,_,HL4.o,hkk,HG.o⟩
       case measure=>
        have hp:plc q (w4.setCell ⟨g,1,none⟩ (.slice (some ⟨g',0,none⟩) (N9+1) cp'))=x1.1:=(by obtain⟨r',i,_⟩:=HL4.o.ex;exact i.plc);rw[hp,hle.2];omega
   · by_cases hy2:y=256
     · subst hy2
       have es:sym1 l n d m () s D L x'=.ok (.inr (),x1):=by
        unfold sym1;rw[z00 hn,if_neg (by decide),if_pos rfl];rfl
       obtain rfl:R=.ok ((),x1):=by rw[<-hR];exact z0E es
       clear hR hn hk hle c1 es hy1;have HN':=qH (show Calls prog 215 #[.pointer (some ⟨g,0,none⟩),.pointer (some ⟨p1,0,none⟩)] wr λe w'=>e=.returned (.int .i64 256)/\SS w r B g q s D L b p1 p2 l n d m x1 w' from HN.o);clear HN;go_wp2_with (go_at_call 215;(with_reducible refine HN'.o.mono ?_);rintro e w1 ⟨rfl,q2⟩;have Q2:=qH q2;clear q2);go_end0;obtain⟨r',i,hr',_⟩:=Q2.o.ex;exact⟨rfl,Q2.o.kp,r',hr',i⟩
     · have e0:((y:Int)==256)=false:=by rw[qN];omega
       have es:sym1 l n d m () s D L x'=matR y d m s D L x1:=by
        unfold sym1;rw[z00 hn,if_neg hy1,if_neg hy2]
       unfold matR at es;cases hl:lenR y s D L x1 with
       |error c=>
        rw[z03 hl] at es;obtain rfl:R=.error c:=by rw[<-hR];exact z0f es
        clear hR hn hk hle c1 es;have hy7:257<=y:=by omega
        go_wp2_with (first
         |(go_at_call 215;(with_reducible refine HN.o.mono ?_);rintro e w1 ⟨q1,q2⟩;unfold z0h at q1;subst q1;have HT:=q2.len hs y hy7;rw[hl] at HT;have HT:=qH HT;clear q2)
         |(go_at_call 216;(with_reducible refine HT.o.mono ?_);rintro e w2 ⟨rfl,k2⟩;have K2:=qH k2;clear k2))
        exact⟨rfl,rfl,K2.o⟩
       |ok p=>
        obtain⟨v,x2⟩:=p;have hv:=zhe hl;rw[z00 hl] at es;have hy7:257<=y:=(by omega);cases hz:nxt d m s D L x2 with
        |error c=>
         rw[z03 hz] at es;obtain rfl:R=.error c:=by rw[<-hR];exact z0f es
         clear hR hn hk hle es
         go_wp2_with (first
          |(go_at_call 215;(with_reducible refine HN.o.mono ?_);rintro e w1 ⟨q1,q2⟩;unfold z0h at q1;subst q1;have HT:=q2.len hs y hy7;rw[hl] at HT;have HT:=qH HT;clear q2 HN)
          |(go_at_call 216;(with_reducible refine HT.o.mono ?_);rintro e w2 ⟨q1,q2⟩;unfold z0h at q1;subst q1;have HZ:=q2.next2 hs;rw[hz] at HZ;have HZ:=qH HZ;obtain⟨_,d1⟩:=q2.cells;clear q2 HT)
          |(go_at_call 215;(with_reducible refine HZ.o.mono ?_);rintro e w3 ⟨rfl,k3⟩;have K3:=qH k3;clear k3))
         exact⟨rfl,rfl,K3.o⟩
        |ok p=>
         obtain⟨z,x3⟩:=p;rw[z00 hz] at es;cases ht:dstR z s D L x3 with
         |error c=>
          rw[z03 ht] at es;obtain rfl:R=.error c:=by rw[<-hR];exact z0f es
          clear hR hn hk hle es;go_wp2_with (first
          |(go_at_call 215;(with_reducible refine HN.o.mono ?_);rintro e w1 ⟨q1,q2⟩;unfold z0h at q1;subst q1;have HT:=q2.len hs y hy7;rw[hl] at HT;have HT:=qH HT;clear q2 HN)
          |(go_at_call 216;(with_reducible refine HT.o.mono ?_);rintro e w2 ⟨q1,q2⟩;unfold z0h at q1;subst q1;have HZ:=q2.next2 hs;rw[hz] at HZ;have HZ:=qH HZ;obtain⟨_,d1⟩:=q2.cells;clear q2 HT)
          |(go_at_call 215;(with_reducible refine HZ.o.mono ?_);rintro e w3 ⟨q1,q2⟩;unfold z0h at q1;subst q1;have HD:=q2.dst hs z;rw[ht] at HD;have HD:=qH HD;clear q2 HZ)
          |(go_at_call 216;(with_reducible refine HD.o.mono ?_);rintro e w4 ⟨rfl,k4⟩;have K4:=qH k4;clear k4))
          exact⟨rfl,rfl,K4.o⟩
         |ok p=>
          obtain⟨t,x4⟩:=p;have htb:=zht ht;rw[z00 ht] at es;cases hc:copy t v s D L x4 with
          |error c=>
           rw[z03 hc] at es;obtain rfl:R=.error c:=by rw[<-hR];exact z0f es
           clear hR hn hk hle es;go_wp2_with (first
          |(go_at_call 215;(with_reducible refine HN.o.mono ?_);rintro e w1 ⟨q1,q2⟩;unfold z0h at q1;subst q1;have HT:=q2.len hs y hy7;rw[hl] at HT;have HT:=qH HT;clear q2 HN)
          |(go_at_call 216;(with_reducible refine HT.o.mono ?_);rintro e w2 ⟨q1,q2⟩;unfold z0h at q1;subst q1;have HZ:=q2.next2 hs;rw[hz] at HZ;have HZ:=qH HZ;obtain⟨_,d1⟩:=q2.cells;clear q2 HT)
          |(go_at_call 215;(with_reducible refine HZ.o.mono ?_);rintro e w3 ⟨q1,q2⟩;unfold z0h at q1;subst q1;have HD:=q2.dst hs z;rw[ht] at HD;have HD:=qH HD;clear q2 HZ)
          |(go_at_call 216;(with_reducible refine HD.o.mono ?_);rintro e w4 ⟨q1,q2⟩;unfold z0h at q1;subst q1;have HC:=q2.match t v htb hv hL hD;rw[hc] at HC;have HC:=qH HC;clear q2 HD)
          |(go_at_call 219;(with_reducible refine HC.o.mono ?_);rintro e w5 ⟨rfl,k5⟩;have K5:=qH k5;clear k5))
           exact⟨rfl,rfl,K5.o⟩
          |ok p=>
           obtain⟨u5,x5⟩:=p;rw[z00 hc] at es;have hgo:=(z1d (k:=k) es).symm.trans hR;have HG:=qH hgo;have hx5:x'.1<x5.1:=by
            have a1:=((z01.lenR y).mono hl).1;have a2:=((z01.nxt d m).mono hz).1;have a3:=((z01.dstR z).mono ht).1;have a4:=((z01.copy t v).mono hc).1;omega
           have hx5l:=(z01.copy t v).inn hc ((z01.dstR z).inn ht ((z01.nxt d m).inn hz ((z01.lenR y).inn hl hx1l)));have hkk:8*s.size - x5.1<k:=(by omega);clear hR hn es hgo hk;go_wp2_with (first
          |(go_at_call 215;(with_reducible refine HN.o.mono ?_);rintro e w1 ⟨q1,q2⟩;unfold z0h at q1;subst q1;have HT:=q2.len hs y hy7;rw[hl] at HT;have HT:=qH HT;clear q2 HN)
          |(go_at_call 216;(with_reducible refine HT.o.mono ?_);rintro e w2 ⟨q1,q2⟩;unfold z0h at q1;subst q1;have HZ:=q2.next2 hs;rw[hz] at HZ;have HZ:=qH HZ;obtain⟨_,d1⟩:=q2.cells;clear q2 HT)
          |(go_at_call 215;(with_reducible refine HZ.o.mono ?_);rintro e w3 ⟨q1,q2⟩;unfold z0h at q1;subst q1;have HD:=q2.dst hs z;rw[ht] at HD;have HD:=qH HD;clear q2 HZ)
          |(go_at_call 216;(with_reducible refine HD.o.mono ?_);rintro e w4 ⟨q1,q2⟩;unfold z0h at q1;subst q1;have HC:=q2.match t v htb hv hL hD;rw[hc] at HC;have HC:=qH HC;clear q2 HD)
          |(go_at_call 219;(with_reducible refine HC.o.mono ?_);rintro e w5 ⟨q1,q2⟩;unfold z1G at q1;subst q1;have HL4:=qH q2;clear q2))
           go_roundw
           case rel=>exact⟨k,_,HL4.o,hkk,HG.o⟩
           case measure=>
            have hp:plc q w5=x5.1:=(by obtain⟨r',i,_⟩:=HL4.o.ex;exact i.plc);rw[hp,hle.2];omega
end
theorem zjM(n:Nat)(hn:n<=65535):Go.bits .xor .u16 (n:Int) 65535=((65535 - n:Nat):Int)/\Go.bits .xor .u16 65535 (n:Int)=((65535 - n:Nat):Int):=by
 have h:∀a b:Nat,a<65536->b<65536->Go.bits .xor .u16 (a:Int) (b:Int)=((a^^^b:Nat):Int):=by
  intro a b ha hb;have hx:a^^^b<2^16:=Nat.xor_lt_two_pow (by simpa using ha) (by simpa using hb);have h1:∀a:Nat,a<65536->(BitVec.ofInt 16 (a:Int)).toNat=a:=λa ha=>by
   rw[BitVec.ofInt_natCast,BitVec.toNat_ofNat];exact Nat.mod_eq_of_lt (by omega)
  show IntKind.u16.wrap ((BitVec.ofInt 16 (a:Int)^^^BitVec.ofInt 16 (b:Int)).toNat:Int)=_
  rw[BitVec.toNat_xor,h1 a ha,h1 b hb];have hw:∀n:Int,IntKind.u16.wrap n=n%65536:=λn=>by simp[IntKind.wrap,IntKind.bits,IntKind.signed]
  rw[hw];omega
 have e:n^^^65535=65535 - n:=by
  refine Nat.eq_of_testBit_eq λi=> ?_
  rw[Nat.testBit_xor,show 65535 - n=2^16 - (n+1) by omega,Nat.testBit_two_pow_sub_succ (by omega),show(65535:Nat)=2^16 - 1 from rfl,Nat.testBit_two_pow_sub_one];by_cases q:i<16
  · simp[q]
  · have:n.testBit i=false:=Nat.testBit_lt_two_pow (Nat.lt_of_lt_of_le (show n<2^16 by omega) (Nat.pow_le_pow_right (by decide) (by omega)))
    simp[q,this]
 have h1:=h n 65535 (by omega) (by omega);have h2:=h 65535 n (by omega) (by omega);rw[Nat.xor_comm,e] at h2;rw[e] at h1;exact⟨h1,h2⟩
theorem z8r{ops:Array Oper}{rest:List Oper}{o:Oper}{a:Act}{w:World}{Q:Exit->Act->World->Prop}(hgd:o.guard=none)(s x:Operand)
 (ho:o.op=.call {callee:=.builtin .append,args:= #[s,x],argTypes:= #[26,9]}) (g n cp:Nat) (bs:List UInt8) (hs:a.eval s=.slice (some ⟨g,0,none⟩) n cp) (h:Ry w g cp bs) (hn:bs.length=n)
 (t:ByteArray) (hx:a.eval x=.string t) (hm:n+t.size<=10000000000) (M:Nat) (hM:M=(bs++t.data.toList).length)
 (hK:∀g' cp' w',Ry w' g' cp' (bs++t.data.toList)->w.grownBy w' (some g)->(g'=g\/w.heap.size<=g')->wpList prog ops Q rest (a.put o.dst (.slice (some ⟨g',0,none⟩) M cp')) w'):wpList prog ops Q (o::rest) a w:=by
 subst hM;exact z8q hgd s x ho g n cp bs hs h hn t hx hm hK
section
variable {w0 w:World} {r0 B g q r D L:Nat} {s:ByteArray} {x:St}
theorem In.start(h:In w B g q r s D L x):Res w B g q r s D L x w:=⟨Kept.refl _ _,r,.inl rfl,h⟩
theorem Res.lift{α:Type}(h:Res w0 B g q r0 s D L x w){f:Nat}{args:Array Value}{res:Except Nat (α×St)}{V:α->Ending->World->Prop}
 (c:∀r,In w B g q r s D L x->Calls prog f args w (Out w B g q r s D L res V)):Calls prog f args w (Out w0 B g q r0 s D L res V):=by
 obtain⟨k,r,hr,i⟩:=h;refine(c r i).mono λe w' o=> ?_
 cases res with
 |ok p=>exact⟨o.1,Res.trans (y:=x) k hr o.2⟩
 |error c=>exact⟨o.1,Kept.ch_trans k o.2 hr⟩
theorem Res.end_(h:Res w0 B g q r0 s D L x w){w':World}(hk:Kept NoB w w'):Kept (Ch g q r0) w0 w':=h.kept.trans hk (λ_ e=>e.elim)
theorem z0l{n a:Nat}{y:St}(h:bits n s D L x=.ok (a,y))(k:Nat)(hk:2^n<=k):a<k/\y=(x.1+n,x.2):=by
 unfold bits at h
 split at h
 · cases h
   exact⟨Nat.lt_of_lt_of_le (M.nb_lt _ _ _) hk,rfl⟩
 · cases h
theorem zcd(h:Res w0 B g q r0 s D L x w)(hs:s.size<=100000)(n:Nat):∃q0,w.cell? ⟨g,0,none⟩=some (.pointer (some ⟨q0,0,none⟩))/\
 Calls prog 211 #[.pointer (some ⟨q0,0,none⟩),.int .i64 n] w λe w'=>
  (if(x.1+7) /8+n<=s.size then e=.returned (.tuple #[.string (s.extract ((x.1+7) /8) ((x.1+7) /8+n)),.int .i64 0])/\Res w0 B g q r0 s D L (8*((x.1+7) /8+n),x.2) w'
   else e=.returned (.tuple #[.string ⟨#[]⟩,.int .i64 6])/\Kept (Ch g q r0) w0 w'):=by
 obtain⟨k,r,hr,i⟩:=h;obtain⟨cp,v3,v4,c0,_⟩:=i.cells;refine⟨q,c0,?_⟩;by_cases hf:(x.1+7) /8+n<=s.size
 · refine(z8K i.rd (by omega) n hf).mono λe w' o=> ?_
   rw[if_pos hf];obtain⟨rfl,o2,o3⟩:=o;exact⟨rfl,Kept.ch_trans k (kq o3) hr,r,hr,i.read o3 o2⟩
 · refine(z8L i.rd (by omega) (n:Int) (by omega) (by omega)).mono λe w' o=> ?_
   rw[if_neg hf];obtain⟨rfl,o2,o3⟩:=o;exact⟨rfl,Kept.ch_trans k (kq o3) hr⟩
theorem Res.take_str(h:Res w0 B g q r0 s D L x w)(u:ByteArray)(hL0:L<=800000000)(hD:D<=100000000)(hu:u.size<=100000)(hL:¬L<x.2.length - D+u.size):∃ (r cp N:Nat) (w1:World),Calls prog 212 #[.pointer (some ⟨g,0,none⟩),.int .i64 u.size] w (λe w'=>e=.returned (.tuple #[])/\w'=w1)/\
 N<=900000000/\x.2.length=N/\Ry w1 r cp x.2/\w1.cell? ⟨g,1,none⟩=some (.slice (some ⟨r,0,none⟩) N cp)/\w1.frozen? ⟨g,1,none⟩=false/\g<w1.heap.size/\g≠r/\
 ∀ (w3:World) (g' cp' M:Nat),M=(x.2++u.data.toList).length->Ry w3 g' cp' (x.2++u.data.toList)->w1.grownBy w3 (some r)->(g'=r\/w1.heap.size<=g')->Res w0 B g q r0 s D L (x.1,x.2++u.data.toList) (w3.setCell ⟨g,1,none⟩ (.slice (some ⟨g',0,none⟩) M cp')):=by
 obtain⟨k,r,hr,i⟩:=h;have hT:=I.take_yes i (k:=u.size) (by omega) hL;obtain⟨cp0,hir⟩:=i.ir;obtain⟨hir1,hk1⟩:=hir.setZ ((L:Int) - ((x.2.length - D+u.size:Nat):Int));have hll:=i.ll;have hdl:=i.dl;have hc:=hir1.cells;have hul:u.data.toList.length=u.size:=Array.length_toList;refine⟨r,cp0,x.2.length,_,hT,by omega,rfl,hir1.ry,hc.2.1,hc.2.2 1,hir1.glt,hir1.gr,λw3 g' cp' M hM h3 h4 h5=> ?_⟩;subst hM;obtain⟨j1,j2,j3⟩:=hir1.app (Kept.refl _ _) h3 h4 h5 rfl;have hk:Kept (Ch g q r) w (w3.setCell ⟨g,1,none⟩ (.slice (some ⟨g',0,none⟩) (x.2++u.data.toList).length cp')):=Kept.ch_trans (hk1.mono λj e=> .inl e) j2 (.inl rfl);have hs:=hk1.size;exact Res.trans (y:=x) k hr ⟨hk,g',j3.imp id (λe=>by omega),j1.in_ (by simp only[qA];omega) (by simp only[qA];omega) (by simp only[qA];omega)⟩
theorem Res.take_no(h:Res w0 B g q r0 s D L x w){k:Nat}(hk:k<=100000)(hL:L<x.2.length - D+k):Calls prog 212 #[.pointer (some ⟨g,0,none⟩),.int .i64 k] w λe w'=>e=.panicked (flt 5)/\Kept (Ch g q r0) w0 w':=by
 obtain⟨j,r,hr,i⟩:=h;exact(I.take_no i (k:=k) (by omega) hL).mono λe w' o=>⟨o.1,j.trans o.2 (λ_ e=>e.elim)⟩
theorem zcf(s:ByteArray)(p n:Nat):(s.extract p (p+n)).data.toList=byt s p n:=by
 simp[byt,List.drop_take]
theorem z7c(h:In w B g q r s D L x)(hs:s.size<=100000)(hL:L<=800000000)(hD:D<=100000000):
 Calls prog 168 #[.pointer (some ⟨g,0,none⟩)] w (Out w B g q r s D L (stor s D L x) z1G):=by
 obtain⟨cp,v3,v4,c0,c1,c2,c3,c4,cf,hy,hm⟩:=h.cells;have HA:=qH ((z30 h.rd (by omega)).mono λe w' (o:Got w B q s (.tuple #[]) (z5M x.1) e w')=>(show e=.returned (.tuple #[])/\Res w B g q r s D L (8*((x.1+7) /8),x.2) w' from⟨o.1,kq o.2.2,r,.inl rfl,h.read o.2.2 o.2.1⟩));generalize hR:stor s D L x=R;unfold stor at hR;rw[z00 (show algn s D L x=.ok ((),(8*((x.1+7) /8),x.2)) from rfl)] at hR;obtain⟨x0,hx0⟩:∃x0:St,(8*((x.1+7) /8),x.2)=x0:=⟨_,rfl⟩
 rw[hx0] at HA hR;clear h hy hm c1 c2 c3 c4 cf hx0;cases h1:bits 16 s D L x0 with
 |error c=>
  rw[z03 h1] at hR;subst hR
  have HB:=qH (λ(W:World) (o:Res w B g q r s D L x0 W)=>(show Calls prog 166 #[.pointer (some ⟨g,0,none⟩),.int .i64 16] W λe w'=>e=.panicked (flt c)/\Kept (Ch g q r) w w' from by
   have:=o.lift (λr i=>z17 i hs 16 (by omega));rw[h1] at this;exact this))
  clear h1;go_enter func168,ntmps168
  go_wp2_with (first
   |(go_at_call 123;(with_reducible refine HA.o.mono ?_);rintro e w1 ⟨rfl,o1⟩;have O1:=qH o1;clear o1)
   |(go_at_call 166;(with_reducible refine(HB.o _ O1.o).mono ?_);rintro e w2 ⟨rfl,k2⟩;have K2:=qH k2;clear k2))
  exact⟨rfl,rfl,K2.o⟩
 |ok p=>
  obtain⟨n,x1⟩:=p;rw[z00 h1] at hR;obtain⟨hn,hx1⟩:=z0l h1 65536 (by decide)
  have HB:=qH (λ(W:World) (o:Res w B g q r s D L x0 W)=>(show Calls prog 166 #[.pointer (some ⟨g,0,none⟩),.int .i64 16] W λe w'=>e=.returned (.int .i64 n)/\Res w B g q r s D L x1 w' from by
   have:=o.lift (λr i=>z17 i hs 16 (by omega));rw[h1] at this;exact this))
  clear h1;cases h2:bits 16 s D L x1 with
  |error c=>
   rw[z03 h2] at hR;subst hR
   have HC:=qH (λ(W:World) (o:Res w B g q r s D L x1 W)=>(show Calls prog 166 #[.pointer (some ⟨g,0,none⟩),.int .i64 16] W λe w'=>e=.panicked (flt c)/\Kept (Ch g q r) w w' from by
    have:=o.lift (λr i=>z17 i hs 16 (by omega));rw[h2] at this;exact this))
   clear h2;go_enter func168,ntmps168
   go_wp2_with (first
    |(go_at_call 123;(with_reducible refine HA.o.mono ?_);rintro e w1 ⟨rfl,o1⟩;have O1:=qH o1;clear o1)
    |(go_at_call 166;(with_reducible refine(HB.o _ O1.o).mono ?_);rintro e w2 ⟨rfl,o2⟩;have O2:=qH o2;clear o2 O1)
    |(go_at_call 166;(with_reducible refine(HC.o _ O2.o).mono ?_);rintro e w3 ⟨rfl,k3⟩;have K3:=qH k3;clear k3))
   exact⟨rfl,rfl,K3.o⟩
  |ok p=>
   obtain⟨t,x2⟩:=p;rw[z00 h2] at hR;obtain⟨ht,hx2⟩:=z0l h2 65536 (by decide)
   have HC:=qH (λ(W:World) (o:Res w B g q r s D L x1 W)=>(show Calls prog 166 #[.pointer (some ⟨g,0,none⟩),.int .i64 16] W λe w'=>e=.returned (.int .i64 t)/\Res w B g q r s D L x2 w' from by
    have:=o.lift (λr i=>z17 i hs 16 (by omega));rw[h2] at this;exact this))
   clear h2;obtain⟨hxa,hxb⟩:=zjM n (by omega);generalize hnn:65535 - n=nn at hxa hxb;have sg1:IntKind.u16.signed=false:=rfl;have mx1:IntKind.u16.max=65535:=rfl;by_cases hq:n+t≠65535
   · rw[if_pos hq] at hR
     subst hR;have d0:((t:Int) !=(nn:Int))=true:=(by rw[bne_iff_ne];omega);clear hq hnn;go_enter func168,ntmps168
     go_wp2_with (first
      |(go_at_call 123;(with_reducible refine HA.o.mono ?_);rintro e w1 ⟨rfl,o1⟩;have O1:=qH o1;clear o1)
      |(go_at_call 166;(with_reducible refine(HB.o _ O1.o).mono ?_);rintro e w2 ⟨rfl,o2⟩;have O2:=qH o2;clear o2 O1)
      |(go_at_call 166;(with_reducible refine(HC.o _ O2.o).mono ?_);rintro e w3 ⟨rfl,o3⟩;have O3:=qH o3;clear o3 O2)
      |(go_at_call 171;(with_reducible refine(zei _).mono ?_);rintro e w4 ⟨rfl,k4⟩;have K4:=qH k4;clear k4))
     exact⟨rfl,rfl,O3.o.end_ K4.o⟩
   · rw[if_neg hq] at hR
     have d0:((t:Int) !=(nn:Int))=false:=(by rw[bne_eq_false_iff_eq];omega);clear hq hnn;by_cases hf:(x2.1+7) /8+n<=s.size
     · have eb:byts n s D L x2=.ok (byt s ((x2.1+7) /8) n,(8*((x2.1+7) /8+n),x2.2)):=by unfold byts;rw[if_pos hf]
       rw[z00 eb] at hR
       have HD:=qH (λ(W:World) (o:Res w B g q r s D L x2 W)=>(show ∃q0,W.cell? ⟨g,0,none⟩=some (.pointer (some ⟨q0,0,none⟩))/\Calls prog 211 #[.pointer (some ⟨q0,0,none⟩),.int .i64 n] W λe w'=>e=.returned (.tuple #[.string (s.extract ((x2.1+7) /8) ((x2.1+7) /8+n)),.int .i64 0])/\Res w B g q r s D L (8*((x2.1+7) /8+n),x2.2) w' from by
        have:=zcd o hs n;simp only[if_pos hf] at this;exact this))
       have hbl:=z49 hf;have hus:(s.extract ((x2.1+7) /8) ((x2.1+7) /8+n)).size=n:=(by rw[ByteArray.size_extract];omega);have hext:=zcf s ((x2.1+7) /8) n;generalize hTX:s.extract ((x2.1+7) /8) ((x2.1+7) /8+n)=TX at HD hus hext;rw[<-hext] at hR;have hap:app TX.data.toList s D L (8*((x2.1+7) /8+n),x2.2)=if L<x2.2.length - D+n then .error 5 else .ok ((),(8*((x2.1+7) /8+n),x2.2++TX.data.toList)):=by
        show(if L<x2.2.length - D+TX.data.toList.length then _ else _)=_
        rw[hext,hbl]
       obtain⟨x3,hx3⟩:∃x3:St,(8*((x2.1+7) /8+n),x2.2)=x3:=⟨_,rfl⟩
       have h32:x2.2=x3.2:=(by rw[<-hx3]);have h31:8*((x2.1+7) /8+n)=x3.1:=(by rw[<-hx3]);rw[hap,h32,h31] at hR;rw[hx3] at HD;clear hap eb hx3 hbl hext hTX h32 h31;by_cases hl:L<x3.2.length - D+n
       · rw[if_pos hl] at hR
         subst hR;have HT:=qH (λ(W:World) (o:Res w B g q r s D L x3 W)=>o.take_no (k:=n) (by omega) hl);clear hl hf;go_enter func168,ntmps168
         go_wp2_with (first
          |(go_at_call 123;(with_reducible refine HA.o.mono ?_);rintro e w1 ⟨rfl,o1⟩;have O1:=qH o1;clear o1)
          |(go_at_call 166;(with_reducible refine(HB.o _ O1.o).mono ?_);rintro e w2 ⟨rfl,o2⟩;have O2:=qH o2;clear o2 O1)
          |(go_at_call 166;(with_reducible refine(HC.o _ O2.o).mono ?_);rintro e w3 ⟨rfl,o3⟩;obtain⟨q0,d9,hB⟩:=HD.o _ o3;have HB9:=qH hB;clear o3 O2 hB)
          |(go_at_call 211;(with_reducible refine HB9.o.mono ?_);rintro e w4 ⟨rfl,o4⟩;have O4:=qH o4;clear o4)
          |(go_at_call 208;(with_reducible refine(z2F _).mono ?_);rintro e w5 ⟨rfl,rfl⟩)
          |(go_at_call 212;(with_reducible refine(HT.o _ O4.o).mono ?_);rintro e w6 ⟨rfl,k6⟩;have K6:=qH k6;clear k6))
         exact⟨rfl,rfl,K6.o⟩
       · rw[if_neg hl] at hR
         subst hR;have HT:=qH (λ(W:World) (o:Res w B g q r s D L x3 W)=>o.take_str TX hL hD (by omega) (by rw[hus];exact hl));have hlM:(x3.2++TX.data.toList).length=x3.2.length+n:=(by rw[qA,<-hus];exact congrArg _ Array.length_toList);generalize hM:x3.2.length+n=M at hlM;have HM:=qH hlM.symm;clear hlM hM;rw[hus] at HT;clear hl hf;go_enter func168,ntmps168
         go_wp2_with (first
          |(go_at_call 123;(with_reducible refine HA.o.mono ?_);rintro e w1 ⟨rfl,o1⟩;have O1:=qH o1;clear o1)
          |(go_at_call 166;(with_reducible refine(HB.o _ O1.o).mono ?_);rintro e w2 ⟨rfl,o2⟩;have O2:=qH o2;clear o2 O1)
          |(go_at_call 166;(with_reducible refine(HC.o _ O2.o).mono ?_);rintro e w3 ⟨rfl,o3⟩;obtain⟨q0,d9,hB⟩:=HD.o _ o3;have HB9:=qH hB;clear o3 O2 hB)
          |(go_at_call 211;(with_reducible refine HB9.o.mono ?_);rintro e w4 ⟨rfl,o4⟩;obtain⟨r9,cp9,N9,w9,u1,u2,u3,u4,u5,u6,u7,u8,u9⟩:=HT.o _ o4;obtain⟨HT9,HY,HX,HNe,HN9⟩:=qh5 u1 u4 u9 u8 u3;clear o4 u1 u3 u4 u8 u9)
          |(go_at_call 208;(with_reducible refine(z2F _).mono ?_);rintro e w5 ⟨rfl,rfl⟩)
          |(go_at_call 212;(with_reducible refine HT9.o.mono ?_);rintro e w6 ⟨rfl,rfl⟩)
          |(at_builtin;refine z8r rfl (.tmp 40) (.tmp 41) rfl r9 N9 cp9 x3.2 rfl HY.o HN9.o TX rfl (by omega) M HM.o ?_;intro g' cp' w7 r2 gr4 o4;have HL4:=qH (HX.o w7 g' cp' M HM.o r2 gr4 o4);have w4b:=(gr4.block g u7 (by intro e;injection e with e;exact HNe.o e));have w4f:=(World.frozen?_of_block (a:=⟨g,1,none⟩) w4b).trans u6;have w4c:=(World.cell?_of_block (a:=⟨g,1,none⟩) w4b).trans u5;clear w4b r2 gr4 o4))
         go_end0;exact⟨rfl,HL4.o⟩
     · have eb:byts n s D L x2=.error 6:=by unfold byts;rw[if_neg hf]
       rw[z03 eb] at hR;subst hR
       have HD:=qH (λ(W:World) (o:Res w B g q r s D L x2 W)=>(show ∃q0,W.cell? ⟨g,0,none⟩=some (.pointer (some ⟨q0,0,none⟩))/\Calls prog 211 #[.pointer (some ⟨q0,0,none⟩),.int .i64 n] W λe w'=>e=.returned (.tuple #[.string ⟨#[]⟩,.int .i64 6])/\Kept (Ch g q r) w w' from by
        have:=zcd o hs n;simp only[if_neg hf] at this;exact this))
       clear eb hf;go_enter func168,ntmps168
       go_wp2_with (first
        |(go_at_call 123;(with_reducible refine HA.o.mono ?_);rintro e w1 ⟨rfl,o1⟩;have O1:=qH o1;clear o1)
        |(go_at_call 166;(with_reducible refine(HB.o _ O1.o).mono ?_);rintro e w2 ⟨rfl,o2⟩;have O2:=qH o2;clear o2 O1)
        |(go_at_call 166;(with_reducible refine(HC.o _ O2.o).mono ?_);rintro e w3 ⟨rfl,o3⟩;obtain⟨q0,d9,hB⟩:=HD.o _ o3;have HB9:=qH hB;clear o3 O2 hB)
        |(go_at_call 211;(with_reducible refine HB9.o.mono ?_);rintro e w4 ⟨rfl,k4⟩;have K4:=qH k4;clear k4)
        |(go_at_call 208;(with_reducible refine(z6O _).mono ?_);rintro e w5 ⟨rfl,k5⟩;have K5:=qH k5;clear k5))
       exact⟨rfl,rfl,K4.o.trans K5.o (λ_ e=>e.elim)⟩
end
section
variable {w W w':World} {B g r D L e n v:Nat} {s:ByteArray} {x y x1:St} {z:Int}
theorem z08.go(o:z08 w B g r s D L e x W)(hk:Kept NoB W w'):z08 w B g r s D L e x w':=by
 obtain⟨k,r1,h1,h2⟩:=o;exact⟨k.trans hk (λ_ e=>e.elim),r1,h1,h2.same hk⟩
theorem z08.cells(o:z08 w B g r s D L e x W):W.cell? ⟨g,0,none⟩=some (.string s)/\W.cell? ⟨g,1,none⟩=some (.int .i64 (x.1:Int))/\W.cell? ⟨g,2,none⟩=some (.int .i64 (e:Int))/\(∀i,W.frozen? ⟨g,i,none⟩=false):=by
 obtain⟨k,r1,h1,h2⟩:=o;obtain⟨cp,c0,c1,c2,c3,c4,c5,cf,hy⟩:=h2.cells;exact⟨c0,c1,c2,cf⟩
theorem z08.o(o:z08 w B g r s D L e x W):∃r1 cp,W.cell? ⟨g,3,none⟩=some (.slice (some ⟨r1,0,none⟩) x.2.length cp)/\Ry W r1 cp x.2:=by
 obtain⟨k,r1,h1,h2⟩:=o;obtain⟨cp,c0,c1,c2,c3,c4,c5,cf,hy⟩:=h2.cells;exact⟨r1,cp,c3,hy⟩
theorem z08.al(o:z08 w B g r s D L e x W):x.1<=8*s.size:=by obtain⟨k,r1,h1,h2⟩:=o;exact h2.al
theorem z08.dl(o:z08 w B g r s D L e x W):D<=x.2.length:=by obtain⟨k,r1,h1,h2⟩:=o;exact h2.dl
theorem z08.ll(o:z08 w B g r s D L e x W):x.2.length - D<=L:=by obtain⟨k,r1,h1,h2⟩:=o;exact h2.ll
theorem z08.setA(o:z08 w B g r s D L e x W)(a:Nat)(z:Int)(hz:z=(a:Int))(ha:a<=8*s.size):z08 w B g r s D L e (a,x.2) (W.setCell ⟨g,1,none⟩ (.int .i64 z)):=by
 subst hz;obtain⟨k,r1,h1,h2⟩:=o;obtain⟨j1,j2⟩:=h2.setA a ha;exact⟨k.trans j2 (λ_ e=> .inl (.inl e)),r1,h1,j1⟩
theorem z08.bits_ok(o:z08 w B g r s D L 0 x W)(hs:s.size<=100000)(hz:z=(n:Int))(hn:n<=16)(h:bits n s D L x=.ok (v,x1)):
 Calls prog 134 #[.pointer (some ⟨g,0,none⟩),.int .i64 z] W λe w'=>e=.returned (.int .i64 (v:Int))/\z08 w B g r s D L 0 x1 w':=by
 subst hz;have:=o.lift λr1 _ i=>z6h i hs n hn
 rw[h] at this;exact this
theorem z08.bits_no{c:Nat}(o:z08 w B g r s D L 0 x W)(hs:s.size<=100000)(hz:z=(n:Int))(hn:n<=16)(h:bits n s D L x=.error c):
 Calls prog 134 #[.pointer (some ⟨g,0,none⟩),.int .i64 z] W λe w'=>e=.returned (.int .i64 0)/\c≠0/\∃y,z08 w B g r s D L c y w':=by
 subst hz;have:=o.lift λr1 _ i=>z6h i hs n hn
 rw[h] at this;exact this
theorem z08.bits_e(o:z08 w B g r s D L e x W)(he:e≠0)(hz:z=(n:Int))(hn:n<=1000):
 Calls prog 134 #[.pointer (some ⟨g,0,none⟩),.int .i64 z] W λe' w'=>e'=.returned (.int .i64 0)/\z08 w B g r s D L e x w':=by
 subst hz;have h:=o;obtain⟨k,r1,h1,h2⟩:=o;exact(z6g h2 he n hn).mono λe' w' q=>⟨q.1,h.go q.2⟩
theorem z08.fail(o:z08 w B g r s D L 0 x W)(c:Nat)(hz:z=(c:Int)):
 Calls prog 139 #[.pointer (some ⟨g,0,none⟩),.int .i64 z] W λe' w'=>e'=.returned (.tuple #[])/\z08 w B g r s D L c x w':=by
 obtain⟨k,r1,h1,h2⟩:=o;exact(z4r h2 c z hz).mono λe' w' q=>⟨q.1,z08.trans k h1 q.2⟩
theorem z08.add_e(o:z08 w B g r s D L e x W)(he:e≠0)(k:Nat)(hz:z=(k:Int)):
 Calls prog 175 #[.pointer (some ⟨g,0,none⟩),.int .i64 z] W λe' w'=>e'=.returned (.bool false)/\W=w':=by
 subst hz;obtain⟨_,r1,h1,h2⟩:=o;exact ziD h2 he k
theorem z08.add_no(o:z08 w B g r s D L 0 x W){k:Nat}(hz:z=(k:Int))(hk:k<=100000000)(hx:D+L<=1000000000)(hL:L<x.2.length - D+k):
 Calls prog 175 #[.pointer (some ⟨g,0,none⟩),.int .i64 z] W λe' w'=>e'=.returned (.bool false)/\z08 w B g r s D L 5 x w':=by
 subst hz;have:=o.ll;obtain⟨k1,r1,h1,h2⟩:=o;exact(zgE h2 hk (by omega) hL).mono λe' w' q=>⟨q.1,z08.trans k1 h1 q.2⟩
theorem z08.add_yes(o:z08 w B g r s D L 0 x W){k:Nat}(hz:z=(k:Int))(hk:k<=100000000)(hx:D+L<=1000000000)(hL:¬L<x.2.length - D+k):
 Calls prog 175 #[.pointer (some ⟨g,0,none⟩),.int .i64 z] W λe' w'=>e'=.returned (.bool true)/\∃n,w'=W.drewN n:=by
 subst hz;have:=o.ll;obtain⟨k1,r1,h1,h2⟩:=o;exact zdi h2 hk (by omega) hL
theorem z08.app(o:z08 w B g r s D L e x W){w1 w2:World}(h1:Kept NoB W w1){l:List UInt8}{r1 cp1:Nat}(hc:W.cell? ⟨g,3,none⟩=some (.slice (some ⟨r1,0,none⟩) x.2.length cp1)){g' cp':Nat}(hy:Ry w2 g' cp' (x.2++l))(hg:w1.grownBy w2 (some r1))(ho:g'=r1\/w1.heap.size<=g'){n:Nat}(hn:n=(x.2++l).length)(hL:x.2.length - D+l.length<=L):
 z08 w B g r s D L e (x.1,x.2++l) (w2.setCell ⟨g,3,none⟩ (.slice (some ⟨g',0,none⟩) n cp')):=by
 obtain⟨k,r2,hr,hi⟩:=o;obtain⟨cp,c0,c1,c2,c3,c4,c5,cf,hy2⟩:=hi.cells;rw[hc] at c3;injection c3 with c3
 injection c3 with c3 _ _
 injection c3 with c3
 injection c3 with c3 _ _
 subst c3;obtain⟨j1,j2,j3⟩:=hi.app h1 hy hg ho hn hL;refine⟨Kept.cg_trans k j2 hr,g',?_,j1⟩;rcases j3 with e|e
 · rw[e];exact hr
 · have:=k.size;exact .inr (by omega)
theorem z08.glt(o:z08 w B g r s D L e x W):g<W.heap.size:=by obtain⟨k,r1,h1,h2⟩:=o;exact h2.glt
theorem zcZ{ops:Array Oper}{o:Oper}{a:Act}{w:World}{K:Act->World->Prop}{Q:Exit->Act->World->Prop}{E:Prop}(hgd:o.guard=none)(s x:Operand)
 (ho:o.op=.call {callee:=.builtin .append,args:= #[s,x],argTypes:= #[26,9]}) (g n cp:Nat) (bs:List UInt8) (hs:a.eval s=.slice (some ⟨g,0,none⟩) n cp) (h:Ry w g cp bs) (hn:bs.length=n)
 (t:ByteArray) (hx:a.eval x=.string t) (hm:n+t.size<=10000000000)
 (hK:∀g' cp' w',Ry w' g' cp' (bs++t.data.toList)->w.grownBy w' (some g)->(g'=g\/w.heap.size<=g')->K (a.put o.dst (.slice (some ⟨g',0,none⟩) (bs++t.data.toList).length cp')) w'):
 if Region.wanted o (yielded ops a.tmps)=true then Oper.wp prog o a w K Q else E:=by
 have hw:Region.wanted o (yielded ops a.tmps)=true:=(by simp[Region.wanted,hgd]);rw[if_pos hw];obtain⟨v,w',r1,g',cp',rfl,r2,r3,r4⟩:=zad w o.type g n cp bs h hn t hm;unfold Oper.wp execOp;simp only[ho,resolve,invoke,builtin,Sem.run_bind,Sem.run_pure,Result.andThen_ok,List.map_toArray,List.map_cons,List.map_nil,hs,hx,r1];exact hK g' cp' w' r2 r3 r4
end
section
variable {w:World} {B g r D L e:Nat} {s:ByteArray} {x:St}
theorem zah(h:Rin w B g r s D L 0 x)(hs:s.size<=100000)(hDL:D+L<=1000000000):
 Calls prog 135 #[.pointer (some ⟨g,0,none⟩)] w (zcy w B g r s D L (stor s D L x) zju zcz):=by
 obtain⟨cp,c0,c1,c2,c3,c4,c5,cf,hy⟩:=h.cells;have hal:=h.al;generalize hR:stor s D L x=R;unfold stor at hR;rw[z00 (show algn s D L x=.ok ((),(8*((x.1+7) /8),x.2)) from rfl)] at hR;generalize hq:(x.1+7) /8=q at hR;have HO1:=qH (λ(z:Int) (hz:z=((8*q:Nat):Int))=>h.start.setA (8*q) z hz (by omega));generalize ha:x.1=a at c1 hq hal;have cf1:=cf 1;have t1:((a:Int)+7).tdiv 8=(q:Int):=(by rw[Int.tdiv_eq_ediv_of_nonneg (by omega)];omega);have t2:IntKind.i64.wrap ((a:Int)+7)=(a:Int)+7:=IntWalk.i64_in _ ⟨by omega,by omega⟩;obtain⟨x0,hx0⟩:∃x0:St,(8*q,x.2)=x0:=⟨_,rfl⟩
 have hq8:x0.1=8*q:=(by rw[<-hx0]);rw[hx0] at HO1 hR;clear h hy c0 c2 c3 c4 c5 cf ha hx0;cases h1:bits 16 s D L x0 with
 |error c=>
  rw[z03 h1] at hR;subst hR;have HB:=qH (λ(W:World) (o:z08 w B g r s D L 0 x0 W)=>o.bits_no (z:=16) hs rfl (by decide) h1);clear h1;go_enter func135,ntmps135
  go_wp2_with (first
   |(go_at_call 134;(with_reducible refine(HB.o _ (HO1.o _ (by omega))).mono ?_);rintro e w2 ⟨rfl,q2,y2,o2⟩;have HE:=qH (o2.bits_e q2 (z:=16) (n:=16) rfl (by decide));have Q2:=qH q2;clear o2 q2)
   |(go_at_call 134;(with_reducible refine HE.o.mono ?_);rintro e w3 ⟨rfl,o3⟩;obtain⟨d0,d1,d2,df⟩:=o3.cells;have dn:((c:Int) !=0)=true:=(by rw[bne_iff_ne];have:=Q2.o;omega);have O3:=qH o3;clear o3 d0 d1 df))
  go_end0;exact⟨rfl,Q2.o,_,O3.o⟩
 |ok p=>
  obtain⟨n,x1⟩:=p;rw[z00 h1] at hR;obtain⟨hn,hx1⟩:=z0l h1 65536 (by decide);have HB:=qH (λ(W:World) (o:z08 w B g r s D L 0 x0 W)=>o.bits_ok (z:=16) hs rfl (by decide) h1);clear h1;cases h2:bits 16 s D L x1 with
  |error c=>
   rw[z03 h2] at hR;subst hR;have HC:=qH (λ(W:World) (o:z08 w B g r s D L 0 x1 W)=>o.bits_no (z:=16) hs rfl (by decide) h2);clear h2;go_enter func135,ntmps135
   go_wp2_with (first
    |(go_at_call 134;(with_reducible refine(HB.o _ (HO1.o _ (by omega))).mono ?_);rintro e w2 ⟨rfl,o2⟩;have O2:=qH o2;clear o2)
    |(go_at_call 134;(with_reducible refine(HC.o _ O2.o).mono ?_);rintro e w3 ⟨rfl,q3,y3,o3⟩;obtain⟨d0,d1,d2,df⟩:=o3.cells;have dn:((c:Int) !=0)=true:=(by rw[bne_iff_ne];omega);obtain⟨O3,Q3⟩:=qh2 o3 q3;clear o3 d0 d1 df q3))
   go_end0;exact⟨rfl,Q3.o,_,O3.o⟩
  |ok p=>
   obtain⟨t,x2⟩:=p;rw[z00 h2] at hR;obtain⟨ht,hx2⟩:=z0l h2 65536 (by decide);have HC:=qH (λ(W:World) (o:z08 w B g r s D L 0 x1 W)=>o.bits_ok (z:=16) hs rfl (by decide) h2);clear h2;obtain⟨a2,ha2⟩:∃a2,x2.1=a2:=⟨_,rfl⟩
   have ha3:a2=8*(q+4):=(by rw[<-ha2,hx2,hx1];simp only;omega);generalize hp:q+4=p at ha3;have hbp:(x2.1+7) /8=p:=(by omega);have t3:(a2:Int).tdiv 8=(p:Int):=(by rw[Int.tdiv_eq_ediv_of_nonneg (by omega)];omega);have t4:IntKind.i64.wrap ((n:Int)+(t:Int))=(n:Int)+(t:Int):=IntWalk.i64_in _ ⟨by omega,by omega⟩;have hcl:=λ(W:World) (o:z08 w B g r s D L 0 x2 W)=>o.cells
   simp only[ha2] at hcl;have HCl:=qH hcl;clear hcl hx1 hx2 hq8;by_cases hq:n+t≠65535
   · rw[if_pos hq] at hR
     subst hR;have d0:((n:Int)+(t:Int) !=65535)=true:=(by rw[bne_iff_ne];omega);clear hq;go_enter func135,ntmps135
     go_wp2_with (first
      |(go_at_call 134;(with_reducible refine(HB.o _ (HO1.o _ (by omega))).mono ?_);rintro e w2 ⟨rfl,o2⟩;have O2:=qH o2;clear o2)
      |(go_at_call 134;(with_reducible refine(HC.o _ O2.o).mono ?_);rintro e w3 ⟨rfl,o3⟩;obtain⟨d0,d1,d2,df⟩:=HCl.o _ o3;have HF:=qH (o3.fail (z:=161) 161 rfl);clear o3 d0 d1 df)
      |(go_at_call 139;(with_reducible refine HF.o.mono ?_);rintro e w4 ⟨rfl,o4⟩;have O4:=qH o4;clear o4))
     go_end0;exact⟨rfl,by decide,_,O4.o⟩
   · rw[if_neg hq] at hR
     have d0:((n:Int)+(t:Int) !=65535)=false:=(by rw[bne_eq_false_iff_eq];omega);clear hq;by_cases hf:p+n<=s.size
     · have eb:byts n s D L x2=.ok (byt s p n,(8*(p+n),x2.2)):=by unfold byts;rw[hbp,if_pos hf]
       rw[z00 eb] at hR;have d3:decide ((s.size:Int) - (p:Int)<(n:Int))=false:=qF (by omega);have hbl:=z49 hf;have hus:(s.extract p (p+n)).size=n:=(by rw[ByteArray.size_extract];omega);have hext:=zcf s p n;generalize hTX:s.extract p (p+n)=TX at hus hext;rw[<-hext] at hR;have hap:app TX.data.toList s D L (8*(p+n),x2.2)=if L<x2.2.length - D+n then .error 5 else .ok ((),(8*(p+n),x2.2++TX.data.toList)):=by
        show(if L<x2.2.length - D+TX.data.toList.length then _ else _)=_
        rw[hext,hbl]
       rw[hap] at hR;clear hap eb;by_cases hl:L<x2.2.length - D+n
       · rw[if_pos hl] at hR
         subst hR;have HT:=qH (λ(W:World) (o:z08 w B g r s D L 0 x2 W)=>o.add_no (k:=n) rfl (by omega) hDL hl);clear hl hext hbl;go_enter func135,ntmps135
         go_wp2_with (first
          |(go_at_call 134;(with_reducible refine(HB.o _ (HO1.o _ (by omega))).mono ?_);rintro e w2 ⟨rfl,o2⟩;have O2:=qH o2;clear o2)
          |(go_at_call 134;(with_reducible refine(HC.o _ O2.o).mono ?_);rintro e w3 ⟨rfl,o3⟩;obtain⟨d0,d1,d2,df⟩:=HCl.o _ o3;have O3:=qH o3;clear o3 df)
          |(go_at_call 175;(with_reducible refine(HT.o _ O3.o).mono ?_);rintro e w4 ⟨rfl,o4⟩;have O4:=qH o4;clear o4))
         go_end0;exact⟨rfl,by decide,_,O4.o⟩
       · rw[if_neg hl] at hR
         subst hR;have HT:=qH (λ(W:World) (o:z08 w B g r s D L 0 x2 W)=>o.add_yes (k:=n) rfl (by omega) hDL hl);have hlM:(x2.2++TX.data.toList).length=x2.2.length+n:=(by rw[qA,hext,hbl]);have HlM:=qH hlM;have hll2:x2.2.length - D+TX.data.toList.length<=L:=(by rw[hext,hbl];omega);have HAp:=qH (λ(W w1 w4:World) (r1 cp1 g' cp' N:Nat) (o:z08 w B g r s D L 0 x2 W) (hk:Kept NoB W w1) (hc:W.cell? ⟨g,3,none⟩=some (.slice (some ⟨r1,0,none⟩) x2.2.length cp1)) (hy:Ry w4 g' cp' (x2.2++TX.data.toList)) (hg:w1.grownBy w4 (some r1)) (ho:g'=r1\/w1.heap.size<=g') (hN:N=(x2.2++TX.data.toList).length)=>o.app hk hc hy hg ho hN hll2);clear hext hbl hll2;go_enter func135,ntmps135
         go_wp2_with (first
          |(go_at_call 134;(with_reducible refine(HB.o _ (HO1.o _ (by omega))).mono ?_);rintro e w2 ⟨rfl,o2⟩;have O2:=qH o2;clear o2)
          |(go_at_call 134;(with_reducible refine(HC.o _ O2.o).mono ?_);rintro e w3 ⟨rfl,o3⟩;obtain⟨d0,d1,d2,df⟩:=HCl.o _ o3;have O3:=qH o3;clear o3)
          |(go_at_call 175;(with_reducible refine(HT.o _ O3.o).mono ?_);rintro e w4 ⟨rfl,n4,rfl⟩))
         obtain⟨r1,cp1,k3,ky⟩:=O3.o.o;have hgl:=O3.o.glt;have hgr:g≠r1:=λe=>by
          obtain⟨_,r9,_,i9⟩:=O3.o;obtain⟨cp9,_,_,_,k9,_⟩:=i9.cells;have h9:=i9.gr;rw[k3] at k9;injection k9 with k9
          injection k9 with k9 _ _
          injection k9 with k9
          injection k9 with k9 _ _
          exact h9 (e.trans k9)
         obtain⟨m,hm⟩:∃m,x2.2.length=m:=⟨_,rfl⟩
         have hl1:=O3.o.ll;have hl2:=O3.o.dl;rw[hm] at k3 hl1 hl2;obtain⟨HM,HTX,KY,K3⟩:=qh4 hm hTX ky k3;have d33:=df 3;have d31:=df 1;obtain⟨M,hM⟩:∃M,p+n=M:=⟨_,rfl⟩
         have t5:IntKind.i64.wrap ((p:Int)+(n:Int))=(M:Int):=(by rw[IntWalk.i64_in _ ⟨by omega,by omega⟩];omega);have t7:p<=M:=(by omega);have t8:M<=s.size:=(by omega);have HMn:=qH hM;rw[hM] at HTX;clear ky df hm hM hf hTX
         go_region_law (refine zcZ rfl (.tmp 54) (.tmp 63) rfl r1 m cp1 x2.2 rfl (KY.o.of_block rfl) HM.o TX (congrArg Value.string HTX.o) (by omega) ?_;intro g' cp' w6 r2 gr6 o6
                        have HL6:=qH (HAp.o _ _ w6 r1 cp1 g' cp' _ O3.o ((Kept.refl NoB w3).drewN _) (by rw[HM.o];exact K3.o) r2 gr6 o6 rfl);have w6b:=(gr6.block g hgl (by intro e;injection e with e;exact hgr e));have w6c:=(World.cell?_of_block (a:=⟨g,1,none⟩) w6b).trans d1;have w6f:=(World.frozen?_of_block (a:=⟨g,3,none⟩) w6b).trans d33;have w6g:=(World.frozen?_of_block (a:=⟨g,1,none⟩) w6b).trans d31;have w6k:=(World.cell?_of_block (a:=⟨g,3,none⟩) w6b).trans k3;clear w6b r2 gr6 o6)
         all_goals
          clear K3 k3;have HL7:=qH HL6.o;clear HL6;rw[HlM.o,HM.o] at HL7;rw[HM.o];go_wp2_with fail;go_end0;refine⟨rfl,?_⟩;have hz:=HL7.o.setA (8*(p+n)) ((8:Int)*(p:Int)+8*(n:Int)) (by omega) (by have:=HMn.o;omega);exact hz
     · have eb:byts n s D L x2=.error 6:=by unfold byts;rw[hbp,if_neg hf]
       rw[z03 eb] at hR;subst hR;have d3:decide ((s.size:Int) - (p:Int)<(n:Int))=true:=q9T (by omega);go_enter func135,ntmps135
       go_wp2_with (first
        |(go_at_call 134;(with_reducible refine(HB.o _ (HO1.o _ (by omega))).mono ?_);rintro e w2 ⟨rfl,o2⟩;have O2:=qH o2;clear o2)
        |(go_at_call 134;(with_reducible refine(HC.o _ O2.o).mono ?_);rintro e w3 ⟨rfl,o3⟩;obtain⟨d0,d1,d2,df⟩:=HCl.o _ o3;have HF:=qH (o3.fail (z:=6) 6 rfl);clear o3 df)
        |(go_at_call 139;(with_reducible refine HF.o.mono ?_);rintro e w4 ⟨rfl,o4⟩;have O4:=qH o4;clear o4))
       go_end0;exact⟨rfl,by decide,_,O4.o⟩
end
def rms(g N:Nat)(w:World):Nat:=match w.cell? ⟨g,2,none⟩ with
 |some (.int _ z)=>if z=0 then match w.cell? ⟨g,1,none⟩ with
  |some (.int _ a)=>N+1 - a.toNat
  |_=>0 else 0
 |_=>0
section
variable {w W w':World} {B g r D L e n v:Nat} {s:ByteArray} {x y x1:St} {z:Int}
theorem z08.rms_0(o:z08 w B g r s D L 0 x W)(N:Nat):rms g N W=N+1 - x.1:=by
 obtain⟨c0,c1,c2,cf⟩:=o.cells;unfold rms;rw[c2,c1];simp
theorem z08.rms_e(o:z08 w B g r s D L e x W)(he:e≠0)(N:Nat):rms g N W=0:=by
 obtain⟨c0,c1,c2,cf⟩:=o.cells;unfold rms;rw[c2];have:¬((e:Nat):Int)=0:=(by omega);exact if_neg this
theorem zac{w:World}{g cp n:Nat}{bs:List UInt8}(h:Ry w g cp bs)(o:Obj):Ry ((w.drewN n).alloc o) g cp bs:=h.of_block (Below.heap_alloc (w.drewN n) _ _ h.lt)
theorem zaW{w:World}{n:Nat}{t:TypeId}(v:Value):((w.drewN n).alloc (.cells #[v] t)).cell? ⟨w.heap.size,0,none⟩=some v:=by
 have h:((w.drewN n).alloc (.cells #[v] t)).heap[w.heap.size]? =some (.cells #[v] t (0,0)):=heap_alloc_new (w.drewN n) _;unfold World.cell?;simp only[h];rfl
theorem zdD{w:World}{n k:Nat}(o:Obj)(h:k<w.heap.size):k<((w.drewN n).alloc o).heap.size:=by
 have:((w.drewN n).alloc o).heap.size=w.heap.size+1:=(by show((w.drewN n).heap.push o).size=_;rw[Array.size_push];rfl);omega
theorem z6K{w:World}{n k:Nat}(o:Obj)(h:k<w.heap.size):((w.drewN n).alloc o).heap[k]? =w.heap[k]? :=Below.heap_alloc (w.drewN n) _ _ h
theorem z08.bits(o:z08 w B g r s D L 0 x W)(hs:s.size<=100000)(hz:z=(n:Int))(hn:n<=16):
 Calls prog 134 #[.pointer (some ⟨g,0,none⟩),.int .i64 z] W (zcy w B g r s D L (I.bits n s D L x) z9n z2g):=by
 subst hz;exact o.lift λr1 _ i=>z6h i hs n hn
theorem z08.code(o:z08 w B g r s D L 0 x W)(hs:s.size<=100000){A:Option Addr}{m c:Nat}{l:Nat->Nat}(hA:Apn w g r A m l)(hl:∀i,l i<=255)(ht:Tbl l m)(hc:m<=c):
 Calls prog 176 #[.pointer (some ⟨g,0,none⟩),.slice A m c] W (zcy w B g r s D L (nxt l m s D L x) z9n z2g):=by
 have hk:=o.kept;exact o.lift λr1 h1 i=>zgB i hs (hA.go hk h1) hl ht hc
theorem z08.same(o:z08 w B g r s D L e x W)(hb:Below W.heap.size W w'):z08 w B g r s D L e x w':=o.go (Kept.of_below hb)
theorem ziw{yy i:Nat}(h:yy=257+i)(hi:i<=28)(w:World):Calls prog 177 #[.int .i64 (yy:Int)] w λe w'=>e=.returned (.int .i64 (lb i:Nat))/\w=w':=by
 have:=zap i w hi;rw[show(257+(i:Int))=(yy:Int) by omega] at this;exact this
theorem zgz{yy i:Nat}(h:yy=257+i)(hi:i<=28)(e:Nat)(he:e<4294967296)(w:World):Calls prog 178 #[.int .i64 (yy:Int),.int .u32 (e:Int)] w λx w'=>x=.returned (.int .i64 (lof i e:Nat))/\Below w.heap.size w w':=by
 have:=zdb i e w hi he;rw[show(257+(i:Int))=(yy:Int) by omega] at this;exact this
theorem zdR{i:Nat}(hi:i<=28):lof i 0≠0:=by
 have h1:∀i,i<=28->ls i≠0/\ll i≠0:=(by decide);obtain⟨a,b⟩:=h1 i hi;unfold lof;rw[if_pos ⟨hi,by omega⟩];omega
theorem zeo{i e:Nat}(hi:i<=29)(he:e<2^db i):dof i e≠0:=by
 have h1:∀i,i<=29->dl i≠0:=(by decide);have:=h1 i hi;unfold dof;rw[if_pos ⟨hi,he⟩];omega
theorem z08.ne(o:z08 w B g r s D L e x W){r1 n cp:Nat}(hc:W.cell? ⟨g,3,none⟩=some (.slice (some ⟨r1,0,none⟩) n cp)):g≠r1:=λq=>by
 obtain⟨_,r9,_,i9⟩:=o;obtain⟨cp9,_,_,_,k9,_⟩:=i9.cells;have h9:=i9.gr;rw[hc] at k9;injection k9 with k9
 injection k9 with k9 _ _
 injection k9 with k9
 injection k9 with k9 _ _
 exact h9 (q.trans k9)
theorem z3W(o:z08 w B g r s D L e x W)(he:e≠0)(a b:Value):Calls prog 136 #[.pointer (some ⟨g,0,none⟩),a,b] W λe' w'=>e'=.returned (.tuple #[])/\W=w':=by
 obtain⟨c0,c1,c2,cf⟩:=o.cells;have d0:((e:Int)==0)=false:=(by rw[qN];omega);clear o c0 c1 cf;go_enter func136,ntmps136;go_wp2_with fail
 go_loopw [6] (λ_ wr=>wr=W) (λ_ _=>0)
 case atStart=>exact rfl
 case round=>
  obtain rfl:=hrel;go_wp2_with fail;go_end0;exact⟨rfl,rfl⟩
theorem z3X(h:Rin w B g r s D L 0 x)(hs:s.size<=100000)(hDL:D+L<=900000000){A1 A2:Option Addr}{c1 c2 m K:Nat}{l d:Nat->Nat}(hA:Apn w g r A1 n l)(hB:Apn w g r A2 m d)(hl:∀i,l i<=255)(hd:∀i,d i<=255)(t1:Tbl l n)(t2:Tbl d m)(hc1:n<=c1)(hc2:m<=c2)(hK:8*s.size - x.1<K):
 Calls prog 136 #[.pointer (some ⟨g,0,none⟩),.slice A1 n c1,.slice A2 m c2] w (zcy w B g r s D L (syms K l n d m s D L x) zju zcz):=by
 generalize hR:syms K l n d m s D L x=R;unfold syms at hR;obtain⟨HR,HS0⟩:=qh2 hR h.start;have HC1:=qH (λ(W:World) (x:St) (o:z08 w B g r s D L 0 x W)=>o.code hs hA hl t1 hc1);have HC2:=qH (λ(W:World) (x:St) (o:z08 w B g r s D L 0 x W)=>o.code hs hB hd t2 hc2);have HBt:=qH (λ(W:World) (x:St) (o:z08 w B g r s D L 0 x W) (n:Nat) (z:Int) (hz:z=(n:Int)) (hn:n<=16)=>o.bits hs hz hn);clear h hR hA hB hl hd t1 t2 hc1 hc2;go_enter func136,ntmps136;go_wp2_with fail
 go_loopw [6] (λ_ wr=>(∃k x',z08 w B g r s D L 0 x' wr/\8*s.size - x'.1<k/\loopR (sym1 l n d m) k () s D L x'=R)\/(∃c y,R=.error c/\c≠0/\z08 w B g r s D L c y wr)) (λ_ wr=>rms g (8*s.size) wr)
 case atStart=>exact .inl ⟨K,x,HS0.o,hK,HR.o⟩
 case round=>
  clear HS0 HR hK;rcases hrel with⟨k,x',hS,hk,hR⟩|⟨c,y,hRc,hc0,hS⟩
  · obtain⟨k,rfl⟩:∃j,k=j+1:=⟨k - 1,by omega⟩
    have hal:=hS.al;have hms:=hS.rms_0 (8*s.size);obtain⟨e0,e1,e2,ef⟩:=hS.cells;obtain⟨HS,HMs⟩:=qh2 hS hms;clear hS e0 e1 ef hms;go_wp2_with fail;refine(HC1.o _ _ HS.o).mono ?_
    intro e w1 o;cases hn:nxt l n s D L x' with
    |error c=>
     obtain rfl:R=.error c:=by rw[<-hR];exact z0f (z03 hn)
     rw[hn] at o;obtain⟨o1,o2,y,o3⟩:=o;unfold z2g at o1;subst o1;obtain⟨e0,e1,e2,ef⟩:=o3.cells;have dn:((c:Int) !=0)=true:=(by rw[bne_iff_ne];omega);obtain⟨O3,O2⟩:=qh2 o3 o2;clear hR hn hk o3 o2 e0 e1 ef;go_wp2_with fail;go_end0;exact⟨rfl,O2.o,_,O3.o⟩
    |ok p=>
     obtain⟨yy,x1⟩:=p;rw[hn] at o;obtain⟨o1,o3⟩:=o;unfold z9n at o1;simp only at o1 o3;subst o1;obtain⟨hy,hx1,hx1l⟩:=zgX hn hal;obtain⟨e0,e1,e2,ef⟩:=o3.cells;have O3:=qH o3;clear HS o3 e0 e1 ef;by_cases hy1:yy<256
     · have es:sym1 l n d m () s D L x'=if L<x1.2.length - D+1 then .error 5 else .ok (.inl (),(x1.1,x1.2++[UInt8.ofNat yy])):=by
        unfold sym1;rw[z00 hn,if_pos hy1];have ha:app [UInt8.ofNat yy] s D L x1=if L<x1.2.length - D+1 then .error 5 else .ok ((),(x1.1,x1.2++[UInt8.ofNat yy])):=rfl;by_cases q:L<x1.2.length - D+1
        · rw[if_pos q] at ha ⊢
          exact z03 ha
        · rw[if_neg q] at ha ⊢
          rw[z00 ha];rfl
       have f1:((yy:Int)==256)=false:=(by rw[qN];omega);have f2:decide ((yy:Int)<256)=true:=q9T (by omega);by_cases hlm:L<x1.2.length - D+1
       · rw[if_pos hlm] at es
         obtain rfl:R=.error 5:=by rw[<-hR];exact z0f es
         have HA:=qH (O3.o.add_no (z:=1) (k:=1) rfl (by decide) (by omega) hlm);clear hR hn hk es;go_wp2_with (go_at_call 175;(with_reducible refine HA.o.mono ?_);rintro e w2 ⟨rfl,o4⟩;have O4:=qH o4;clear o4);go_roundw
         case rel=>exact .inr ⟨5,_,rfl,by decide,O4.o⟩
         case measure=>rw[O4.o.rms_e (by decide),HMs.o];omega
       · rw[if_neg hlm] at es
         have hgo:=(z1d (k:=k) es).symm.trans hR;have HG:=qH hgo;have hkk:8*s.size - x1.1<k:=(by omega);have hu:((UInt8.ofNat yy).toNat:Int)=(yy:Int):=(by rw[UInt8.toNat_ofNat'];omega);have hu8:IntKind.u8.wrap (yy:Int)=(yy:Int):=(by rw[IntKind.wrap_u8'];omega);have HA:=qH (O3.o.add_yes (z:=1) (k:=1) rfl (by decide) (by omega) hlm);clear hR hn es hgo hk
         go_wp2_with (first
          |(go_at_call 175;(with_reducible refine HA.o.mono ?_);rintro e w2 ⟨rfl,n4,rfl⟩
            obtain⟨r1,cp1,k3,ky⟩:=O3.o.o;have hgl:=O3.o.glt;have hgr:=O3.o.ne k3;have hl1:=O3.o.ll;have hl2:=O3.o.dl;generalize hN9:x1.2.length=N9 at k3 hl1 hl2;obtain⟨HN9,KY,K3⟩:=qh3 hN9 ky k3;obtain⟨_,_,_,df⟩:=O3.o.cells;have d33:=df 3;clear ky df hN9)
          |(at_builtin;refine z3L rfl (.tmp 38) (.tmp 41) rfl r1 N9 cp1 x1.2 rfl (zac KY.o _) HN9.o ⟨w1.heap.size,0,none⟩ 1 (UInt8.ofNat yy) rfl (by rw[hu];exact zaW _) (by omega) ?_
            intro g' cp' w6 r2 gr6 o6;have HL6:=qH (O3.o.app (w2:=w6) (((Kept.refl NoB w1).drewN n4).alloc _) (by rw[HN9.o];exact K3.o) r2 gr6 o6 (n:=N9+1) (by rw[qA,HN9.o];rfl) (by rw[HN9.o];show N9 - D+1<=L;rw[HN9.o] at hlm;omega));have w6b:=(gr6.block g (zdD _ hgl) (by intro e;injection e with e;exact hgr e));have w6e:=w6b.trans (z6K _ hgl);have w6f:=(World.frozen?_of_block (a:=⟨g,3,none⟩) w6e).trans d33;have w6k:=(World.cell?_of_block (a:=⟨g,3,none⟩) w6e).trans k3;clear w6b w6e r2 gr6 o6))
         go_roundw
         case rel=>exact .inl ⟨k,_,HL6.o,hkk,HG.o⟩
         case measure=>rw[HL6.o.rms_0,HMs.o];simp only;omega
     · have f2:decide ((yy:Int)<256)=false:=qF (by omega)
       by_cases hy2:yy=256
       · have es:sym1 l n d m () s D L x'=.ok (.inr (),x1):=by
          unfold sym1;rw[z00 hn,if_neg hy1,if_pos hy2];rfl
         obtain rfl:R=.ok ((),x1):=by rw[<-hR];exact z0E es
         have f1:((yy:Int)==256)=true:=(by rw[beq_iff_eq];omega);clear hR hn hk es hy2;go_wp2_with fail;go_end0;exact⟨rfl,O3.o⟩
       · have f1:((yy:Int)==256)=false:=by rw[qN];omega
         have es:sym1 l n d m () s D L x'=matR yy d m s D L x1:=by
          unfold sym1;rw[z00 hn,if_neg hy1,if_neg hy2]
         unfold matR at es;clear hn;by_cases hy3:285<yy
         · have hlen:lenR yy s D L x1=.error 163:=by
            unfold lenR;rw[if_neg (by omega:¬yy<=285),z00 (show I.bits 0 s D L x1=.ok (M.nb s x1.1 0,(x1.1+0,x1.2)) from if_pos (by omega)),if_pos (.inl hy3)];rfl
           rw[z03 hlen] at es;obtain rfl:R=.error 163:=by rw[<-hR];exact z0f es
           have f3:decide (285<(yy:Int))=true:=q9T (by omega);have HF:=qH (O3.o.fail (z:=163) 163 rfl);clear hR hk es hlen;go_wp2_with (go_at_call 139;(with_reducible refine HF.o.mono ?_);rintro e w2 ⟨rfl,o4⟩;have O4:=qH o4;clear o4);go_end0;exact⟨rfl,by decide,_,O4.o⟩
         · obtain⟨i,hi⟩:∃i,yy=257+i:=⟨yy - 257,by omega⟩
           have hi28:i<=28:=(by omega);have hlb:=zdY i hi28;have hlen:lenR yy s D L x1=bnd (I.bits (lb i)) (λe=>if lof i e=0 then fl 163 else pur (lof i e)) s D L x1:=by
            unfold lenR;rw[if_pos (by omega:yy<=285),show yy - 257=i by omega];congr 1;funext e;by_cases q:lof i e=0
            · rw[if_pos (.inr q),if_pos q]
            · rw[if_neg (by omega),if_neg q]
           have f3:decide (285<(yy:Int))=false:=qF (by omega);have HLb:=qH (λw=>ziw hi hi28 w);have HLo:=qH (λe he w=>zgz hi hi28 e he w);generalize hB1:lb i=B1 at hlb hlen HLb;clear hi;go_wp2_with (go_at_call 177;(with_reducible refine(HLb.o _).mono ?_);rintro e w2 ⟨rfl,rfl⟩);refine(HBt.o _ _ O3.o B1 _ rfl (by omega)).mono ?_
           intro e w2 o;cases hb:I.bits B1 s D L x1 with
           |error c=>
            rw[z03 (show lenR yy s D L x1=.error c from by rw[hlen];exact z03 hb)] at es;obtain rfl:R=.error c:=by rw[<-hR];exact z0f es
            rw[hb] at o;obtain⟨o1,o2,y,o3⟩:=o;unfold z2g at o1;subst o1;have hv0:=zdR hi28;have hL0:=λw=>HLo.o 0 (by decide) w
            obtain⟨v0,hv⟩:∃v0,lof i 0=v0:=⟨_,rfl⟩
            rw[hv] at hv0;simp only[hv] at hL0;have HL0:=qH (λw=>show Calls prog 178 #[.int .i64 (yy:Int),.int .u32 0] w λx w'=>x=.returned (.int .i64 (v0:Int))/\Below w.heap.size w w' from hL0 w);have dv:((v0:Int)==0)=false:=(by rw[qN];omega);have dn:((c:Int) !=0)=true:=(by rw[bne_iff_ne];omega);obtain⟨O3,O2⟩:=qh2 o3 o2;clear hR hk es hlen hb o3 o2 hL0 hv e2;go_wp2_with (go_at_call 178;(with_reducible refine(HL0.o _).mono ?_);rintro e w3 ⟨rfl,b3⟩;have o4:=O3.o.same b3;obtain⟨d0,d1,d2,df⟩:=o4.cells;have O4:=qH o4;clear b3 o4 d0 d1 df);go_end0;exact⟨rfl,O2.o,_,O4.o⟩
           |ok p=>
            obtain⟨e1,x2⟩:=p;rw[hb] at o;obtain⟨o1,o3⟩:=o;unfold z9n at o1;simp only at o1 o3;subst o1;obtain⟨he1,hx2⟩:=z0l hb 65536 (Nat.pow_le_pow_right (by decide) (by omega):2^B1<=2^16);have hx2l:x1.1<=x2.1:=(by rw[hx2];simp only;omega);have hx2a:=(z01.bits B1).inn hb hx1l;have hlv:=zb9 i e1;have hL1:=λw=>HLo.o e1 (by omega) w
            obtain⟨v,hv⟩:∃v,lof i e1=v:=⟨_,rfl⟩
            rw[hv] at hlv;simp only[hv] at hL1;have HL1:=qH hL1;have u1:IntKind.u32.wrap (e1:Int)=(e1:Int):=(by rw[IntKind.wrap_u32'];omega);have O3:=qH o3;have hlr:lenR yy s D L x1=(if v=0 then fl 163 else pur v:Rm Nat) s D L x2:=(by rw[hlen,z00 hb,hv]);clear hlen hb hv hL1 e2 HLo HLb;by_cases hv0:v=0
            · rw[if_pos hv0] at hlr
              rw[z03 (show lenR yy s D L x1=.error 163 from hlr)] at es;obtain rfl:R=.error 163:=by rw[<-hR];exact z0f es
              have dv:((v:Int)==0)=true:=(by rw[beq_iff_eq];omega);have dn:((163:Int) !=0)=true:=(by decide);clear hR hk es hlr hv0
              go_wp2_with (first
               |(go_at_call 178;(with_reducible refine(HL1.o _).mono ?_);rintro e w3 ⟨rfl,b3⟩;have o4:=O3.o.same b3;have HF:=qH (o4.fail (z:=163) 163 rfl);clear b3 o4)
               |(go_at_call 139;(with_reducible refine HF.o.mono ?_);rintro e w4 ⟨rfl,o5⟩;obtain⟨d0,d1,d2,df⟩:=o5.cells;have O5:=qH o5;clear o5 d0 d1 df))
              go_end0;exact⟨rfl,by decide,_,O5.o⟩
            · rw[if_neg hv0] at hlr
              rw[z00 (show lenR yy s D L x1=.ok (v,x2) from hlr)] at es;have dv:((v:Int)==0)=false:=(by rw[qN];omega);clear hlr hv0;go_wp2_with (go_at_call 178;(with_reducible refine(HL1.o _).mono ?_);rintro e w3 ⟨rfl,b3⟩;have o4:=O3.o.same b3;obtain⟨d0,d1,d2,df⟩:=o4.cells;have O4:=qH o4;clear b3 o4 d0 d1 df);refine(HC2.o _ _ O4.o).mono ?_
              intro e w4 o;cases hz:nxt d m s D L x2 with
              |error c=>
               rw[z03 hz] at es;obtain rfl:R=.error c:=by rw[<-hR];exact z0f es
               rw[hz] at o;obtain⟨o1,o2,y,o3⟩:=o;unfold z2g at o1;subst o1;obtain⟨d0,d1,d2',df⟩:=o3.cells;have dn:((c:Int) !=0)=true:=(by rw[bne_iff_ne];omega);have de:((c:Int)==0)=false:=(by rw[qN];omega);obtain⟨O5,O2⟩:=qh2 o3 o2;clear hR hk es hz o3 o2 d0 d1 df;go_wp2_with fail;go_end0;exact⟨rfl,O2.o,_,O5.o⟩
              |ok p=>
               obtain⟨zz,x3⟩:=p;rw[z00 hz] at es;rw[hz] at o;obtain⟨o1,o3⟩:=o;unfold z9n at o1;simp only at o1 o3;subst o1;obtain⟨hzy,hx3,hx3l⟩:=zgX hz hx2a;obtain⟨d0,d1,d2',df⟩:=o3.cells;have O5:=qH o3;clear hz o3 d0 d1 df;by_cases hz3:29<zz
               · have hdst:dstR zz s D L x3=.error 163:=by
                  unfold dstR;rw[if_neg (by omega:¬zz<=29),z00 (show I.bits 0 s D L x3=.ok (M.nb s x3.1 0,(x3.1+0,x3.2)) from if_pos (by omega)),if_pos (.inl hz3)];rfl
                 rw[z03 hdst] at es;obtain rfl:R=.error 163:=by rw[<-hR];exact z0f es
                 have g3:decide (29<(zz:Int))=true:=q9T (by omega);have dn:((163:Int) !=0)=true:=(by decide);have HF:=qH (O5.o.fail (z:=163) 163 rfl);clear hR hk es hdst;go_wp2_with (go_at_call 139;(with_reducible refine HF.o.mono ?_);rintro e w5 ⟨rfl,o6⟩;obtain⟨d0,d1,d2'',df⟩:=o6.cells;have O6:=qH o6;clear o6 d0 d1 df);go_end0;exact⟨rfl,by decide,_,O6.o⟩
               · have hz29:zz<=29:=by omega
                 have hdb:=zer zz hz29;have hdst:dstR zz s D L x3=bnd (I.bits (db zz)) (λe=>if dof zz e=0 then fl 163 else pur (dof zz e)) s D L x3:=by
                  unfold dstR;rw[if_pos hz29];congr 1;funext e;by_cases q:dof zz e=0
                  · rw[if_pos (.inr q),if_pos q]
                  · rw[if_neg (by omega),if_neg q]
                 have g3:decide (29<(zz:Int))=false:=qF (by omega);have HDb:=qH (λw=>zax zz w hz29);have HDo:=qH (λe he w=>zdg zz e w hz29 he);have HDn:=qH (λe (he:e<2^db zz)=>zeo hz29 he);generalize hB2:db zz=B2 at hdb hdst HDb HDn;go_wp2_with (go_at_call 179;(with_reducible refine(HDb.o _).mono ?_);rintro e w5 ⟨rfl,rfl⟩);refine(HBt.o _ _ O5.o B2 _ rfl (by omega)).mono ?_
                 intro e w5 o;cases hb:I.bits B2 s D L x3 with
                 |error c=>
                  rw[z03 (show dstR zz s D L x3=.error c from by rw[hdst];exact z03 hb)] at es;obtain rfl:R=.error c:=by rw[<-hR];exact z0f es
                  rw[hb] at o;obtain⟨o1,o2,y,o3⟩:=o;unfold z2g at o1;subst o1;have hL0:=λw=>HDo.o 0 (by decide) w
                  obtain⟨t0,ht⟩:∃t0,dof zz 0=t0:=⟨_,rfl⟩
                  simp only[ht] at hL0;have HL0:=qH (λw=>show Calls prog 180 #[.int .i64 (zz:Int),.int .u32 0] w λx w'=>x=.returned (.int .i64 (t0:Int))/\Below w.heap.size w w' from hL0 w);have de:((c:Int)==0)=false:=(by rw[qN];omega);obtain⟨O6,O2⟩:=qh2 o3 o2;clear hR hk es hdst hb o3 o2 hL0 ht
                  go_wp2_with (first
                   |(go_at_call 180;(with_reducible refine(HL0.o _).mono ?_);rintro e w6 ⟨rfl,b6⟩;have o4:=O6.o.same b6;obtain⟨d0,d1,d2'',df⟩:=o4.cells;have HAd:=qH (o4.add_e O2.o v rfl);have O7:=qH o4;clear b6 o4 d0 d1 df)
                   |(go_at_call 175;(with_reducible refine HAd.o.mono ?_);rintro e w7 ⟨rfl,rfl⟩))
                  go_end0;exact⟨rfl,O2.o,_,O7.o⟩
                 |ok p=>
                  obtain⟨e3,x4⟩:=p;rw[hb] at o;obtain⟨o1,o3⟩:=o;unfold z9n at o1;simp only at o1 o3;subst o1;obtain⟨he3,hx4⟩:=z0l hb 65536 (Nat.pow_le_pow_right (by decide) (by omega):2^B2<=2^16);have hx4l:x3.1<=x4.1:=(by rw[hx4];simp only;omega);have hx4a:=(z01.bits B2).inn hb hx3l;have hdn:=HDn.o e3 (z0l hb _ qR).1;have hdl:=zbL zz e3;have hL1:=λw=>HDo.o e3 (by omega) w
                  obtain⟨t,ht⟩:∃t,dof zz e3=t:=⟨_,rfl⟩
                  rw[ht] at hdn hdl;simp only[ht] at hL1;have HL1:=qH hL1;have u2:IntKind.u32.wrap (e3:Int)=(e3:Int):=(by rw[IntKind.wrap_u32'];omega);have hdr:dstR zz s D L x3=.ok (t,x4):=(by rw[hdst,z00 hb,ht,if_neg hdn];rfl);rw[z00 hdr] at es;obtain⟨d0,d1,d2'',df⟩:=o3.cells;have O6:=qH o3;clear hdr hdst hb ht hL1 o3 d0 d1 df HDb HDo HDn;obtain⟨r1,cp1,k3,ky⟩:=O6.o.o;have hl1:=O6.o.ll;have hl2:=O6.o.dl;obtain⟨M4,hM4⟩:∃M4,x4.2.length=M4:=⟨_,rfl⟩
                  rw[hM4] at k3 hl1 hl2;by_cases hfar:M4<t
                  · have hcp:copy t v s D L x4=.error 164:=by unfold copy;rw[hM4,if_pos hfar]
                    rw[z03 hcp] at es;obtain rfl:R=.error 164:=by rw[<-hR];exact z0f es
                    have g4':decide (M4<t)=true:=q9T hfar;have k39:=λ(W:World) (b:Below w5.heap.size w5 W)=>(b.cell (O6.o.glt)).trans k3
                    have K39:=qH k39;clear hR hk es hcp hfar ky k39 k3
                    go_wp2_with (first
                     |(go_at_call 180;(with_reducible refine(HL1.o _).mono ?_);rintro e w6 ⟨rfl,b6⟩;have o4:=O6.o.same b6;obtain⟨d0,d1,d2'',df⟩:=o4.cells;have k3:=K39.o _ b6;have HF:=qH (o4.fail (z:=164) 164 rfl);clear b6 o4 d0 d1 df)
                     |(go_at_call 139;(with_reducible refine HF.o.mono ?_);rintro e w7 ⟨rfl,o8⟩;have HAd:=qH (o8.add_e (by decide) v rfl);have O8:=qH o8;clear o8)
                     |(go_at_call 175;(with_reducible refine HAd.o.mono ?_);rintro e w8 ⟨rfl,rfl⟩))
                    go_end0;exact⟨rfl,by decide,_,O8.o⟩
                  · have g4':decide (M4<t)=false:=qF hfar
                    have k39:=λ(W:World) (b:Below w5.heap.size w5 W)=>(b.cell (O6.o.glt)).trans k3
                    have K39:=qH k39;by_cases hlm:L<M4 - D+v
                    · have hcp:copy t v s D L x4=.error 5:=by unfold copy;rw[hM4,if_neg hfar,if_pos hlm]
                      rw[z03 hcp] at es;obtain rfl:R=.error 5:=by rw[<-hR];exact z0f es
                      have HAd:=qH (λ(W:World) (o:z08 w B g r s D L 0 x4 W)=>o.add_no (k:=v) rfl (by omega) (by omega) (by rw[hM4];exact hlm));clear hR hk es hcp hfar ky k39 k3
                      go_wp2_with (first
                       |(go_at_call 180;(with_reducible refine(HL1.o _).mono ?_);rintro e w6 ⟨rfl,b6⟩;have o4:=O6.o.same b6;obtain⟨d0,d1,d2'',df⟩:=o4.cells;have k3:=K39.o _ b6;have O7:=qH o4;clear b6 o4 d0 d1 df)
                       |(go_at_call 175;(with_reducible refine(HAd.o _ O7.o).mono ?_);rintro e w8 ⟨rfl,o8⟩;have O8:=qH o8;clear o8))
                      go_end0;exact⟨rfl,by decide,_,O8.o⟩
                    · have hcp:copy t v s D L x4=.ok ((),(x4.1,gr x4.2 t v)):=by unfold copy;rw[hM4,if_neg hfar,if_neg hlm]
                      rw[z00 hcp] at es;have hgo:=(z1d (k:=k) es).symm.trans hR;have HG:=qH hgo;have HAd:=qH (λ(W:World) (o:z08 w B g r s D L 0 x4 W)=>o.add_yes (k:=v) rfl (by omega) (by omega) (by rw[hM4];exact hlm));have hkk:8*s.size - x4.1<k:=(by omega);have HM4:=qH hM4;clear hR hk es hcp hgo ky k39 k3 hM4
                      go_wp2_with (first
                       |(go_at_call 180;(with_reducible refine(HL1.o _).mono ?_);rintro e w6 ⟨rfl,b6⟩;have o4:=O6.o.same b6;obtain⟨d0,d1,d2'',df⟩:=o4.cells;have k3:=K39.o _ b6;have O7:=qH o4;clear b6 o4 d0 d1 df)
                       |(go_at_call 175;(with_reducible refine(HAd.o _ O7.o).mono ?_);rintro e w8 ⟨rfl,n8,rfl⟩))
                      have HO8:=qH (O7.o.go ((Kept.refl NoB w6).drewN n8));clear k3 d2''
                      go_loopw [12] (λi wr=> ∃j:Nat,j<=v/\i=.int .i64 j/\z08 w B g r s D L 0 (x4.1,gr x4.2 t j) wr) (λi _=>v - (intOf i).toNat)
                      case atStart=>exact⟨0,qZ,rfl,HO8.o⟩
                      case round=>
                       obtain⟨j,hj,rfl,ho⟩:=hrel;have hgl:=z0o x4.2 t j;rw[HM4.o] at hgl;generalize hMM:M4+j=MM at hgl;by_cases hlt:j<v
                       · obtain⟨r1,cp1,k3,ky⟩:=ho.o
                         simp only at k3 ky;have hg9:=ho.glt;have hgr:=ho.ne k3;obtain⟨_,_,_,df⟩:=ho.cells;have d33:=df 3;obtain⟨u,hu⟩:∃u,MM - t=u:=⟨_,rfl⟩
                         have hM8:MM<=900000258:=(by omega);have y1:IntKind.i64.wrap ((MM:Int) - (t:Int))=(u:Int):=(by rw[IntWalk.i64_in _ ⟨by omega,by omega⟩];omega);have y2:IntKind.i64.wrap (u:Int)=(u:Int):=(by rw[IntWalk.i64_in _ ⟨by omega,by omega⟩]);have hu2:u<MM:=(by omega);have hgx:(gr x4.2 t j)[u]? =some ((gr x4.2 t j).getD u 0):=(by rw[List.getD,qE (by omega)];rfl);have hstep:gr x4.2 t (j+1)=gr x4.2 t j++[(gr x4.2 t j).getD u 0]:=by
                          show gr x4.2 t j++[(gr x4.2 t j).getD ((gr x4.2 t j).length - t) 0]=_
                          rw[hgl,hu]
                         have wx:=ky.byte u _ hgx;generalize hb:(gr x4.2 t j).getD u 0=bv at wx hstep;have k3':=k3;rw[hgl] at k3;obtain⟨HI2,HK3,HY,HGl,HST⟩:=qh5 ho k3' ky hgl hstep;have hLm:MM - D+1<=L:=(by omega);have wab:∀o:Obj,(wr.alloc o).cell? ⟨g,3,none⟩=some (.slice (some ⟨r1,0,none⟩) MM cp1):=λo=>(World.cell?_of_block (a:=⟨g,3,none⟩) (Below.heap_alloc _ _ _ hg9)).trans k3
                         clear ho hgl hstep hb hgx hMM hu ky df k3' hfar hlm g4' dv f1 f2 f3 g3;go_wp2_with fail
                         go_region_law (refine z7e rfl (.tmp 122) (.tmp 136) rfl r1 MM cp1 (gr x4.2 t j) rfl (z7h HY.o _) HGl.o ⟨wr.heap.size,0,none⟩ 1 bv rfl (by simp) (by omega) ?_
                                        intro g' cp' w9 r2 gr9 o9;have HL9:=qH (HI2.o.app (w2:=w9) (((Kept.refl NoB wr).drew).alloc _) HK3.o r2 gr9 o9 (n:=MM+1) (by rw[qA,HGl.o];rfl) (by rw[HGl.o];exact hLm));have w9b:=(gr9.block g (by simp;omega) (by intro e;injection e with e;exact hgr e));have w9e:=w9b.trans (Below.heap_alloc _ _ _ hg9);have w9f:=(World.frozen?_of_block (a:=⟨g,3,none⟩) w9e).trans d33;have w9k:=(World.cell?_of_block (a:=⟨g,3,none⟩) w9e).trans k3;clear w9b w9e r2 gr9 o9)
                         all_goals
                          clear wab wx;have HL10:=qH HL9.o;clear HL9;rw[<-HST.o] at HL10;go_wp2_with fail;go_roundw
                          case rel=>exact⟨j+1,by omega,by go_num,HL10.o⟩
                          case measure=>simp[intOf];omega
                       · obtain rfl:j=v:=by omega
                         have HO9:=qH ho;clear ho hgl hMM;go_wp2_with fail;go_roundw
                         case rel=>exact .inl ⟨k,_,HO9.o,hkk,HG.o⟩
                         case measure=>rw[HO9.o.rms_0,HMs.o];simp only;omega
  · obtain⟨e0,e1,e2,ef⟩:=hS.cells
    have d0:((c:Int)==0)=false:=(by rw[qN];omega);have HS:=qH hS;clear hS e0 e1 ef;go_wp2_with fail;go_end0;rw[hRc];exact⟨rfl,hc0,_,HS.o⟩
end
theorem z0i{α β γ:Type}(r:Rm α)(f:α->Rm β)(g:β->Rm γ):bnd (bnd r f) g=bnd r λa=>bnd (f a) g:=by
 funext s D L x;unfold bnd;cases r s D L x<;>rfl
def zbg(a b:Nat)(all:List Nat):Rm (List Nat×Nat×Nat):=if all.getD 256 0=0 then fl 162 else pur (all,a+257,b+1)
def z6w(K a b:Nat)(o:Nat->Nat):Rm (List Nat×Nat×Nat):=if kind o 19≠2 then fl 162 else bnd (loopR (len1 o (a+257+(b+1))) K []) λall=>zbg a b all
def zbh(K a b k:Nat):Rm (List Nat×Nat×Nat):=if 286<a+257\/30<b+1 then fl 162 else bnd (ownR (k+4) 0 λ_=>0) λo=>z6w K a b o
def z5E(K:Nat):Rm (List Nat×Nat×Nat):=bnd (bits 5) λa=>bnd (bits 5) λb=>bnd (bits 4) λk=>zbh K a b k
def tabs(t:List Nat×Nat×Nat):Rm (List Nat×Nat×Nat):=if ¬Tbl (lit t.1) t.2.1\/¬Tbl (dis t.1 t.2.1) t.2.2 then fl 162 else pur t
theorem zel(K:Nat):dyn K=bnd (z5E K) tabs:=by
 unfold dyn z5E;rw[z0i];congr 1;funext a;rw[z0i];congr 1;funext b;rw[z0i];congr 1;funext k;unfold zbh;by_cases q:286<a+257\/30<b+1
 · rw[if_pos q,if_pos q];rfl
 · rw[if_neg q,if_neg q,z0i];congr 1;funext o
   unfold z6w;by_cases q2:kind o 19≠2
   · rw[if_pos q2,if_pos q2];rfl
   · rw[if_neg q2,if_neg q2,z0i];congr 1;funext all
     unfold zbg tabR;by_cases q3:all.getD 256 0=0
     · rw[if_pos (.inl q3),if_pos q3];rfl
     · rw[if_neg q3]
       show _=tabs (all,a+257,b+1)
       unfold tabs;by_cases q4:¬Tbl (lit all) (a+257)\/¬Tbl (dis all (a+257)) (b+1)
       · rw[if_pos (.inr q4),if_pos q4]
       · rw[if_neg q4,if_neg (λh=>h.elim q3 q4)]
theorem ziI:V.ord=od:=rfl
theorem zdZ:∀ (l:List Nat),l.getLastD 0=l.getD (l.length - 1) 0:=λl=>by
 rw[List.getD,<-List.getLast?_eq_getElem?,List.getLastD_eq_getLast?]
section
variable {w W w' w1 w2:World} {B g r D L e n v ob:Nat} {s:ByteArray} {x y x1:St} {z:Int}
theorem Rin.set_off(h:Rin w B g r s D L e x){b i:Nat}{u:Value}(hg:b≠g)(hr:b≠r):Rin (w.setCell ⟨b,i,none⟩ u) B g r s D L e x:=by
 obtain⟨cp,h1,h2⟩:=h.row;have e1:(w.setCell ⟨b,i,none⟩ u).heap[g]? =w.heap[g]? :=Below.heap_setCell _ _ _ _ hg.symm;exact⟨h.gb,h.rb,⟨cp,e1.trans h1,h2.other (x:=⟨b,i,none⟩) hr.symm u⟩,h.dl,h.ll,h.al⟩
theorem kept_from(hb:Below B w w'):Kept (λj=>B<=j) w w':=⟨hb.os,hb.tape,hb.output,hb.size,λk _ hk=>hb.block k (by omega)⟩
theorem Rin.low{B1:Nat}(h:Rin w B g r s D L e x)(hb:Below B1 w w')(hg:g<B1)(hr:r<B1):Rin w' B g r s D L e x:=by
 obtain⟨cp,h1,h2⟩:=h.row;exact⟨h.gb,h.rb,⟨cp,(hb.block g hg).trans h1,h2.of_block (hb.block r hr)⟩,h.dl,h.ll,h.al⟩
theorem zbn{B1:Nat}{S:Nat->Prop}(h:Kept S w w1)(hb:Below B1 w1 w2)(hB:w.heap.size<=B1):Kept S w w2:=h.trans (kept_from hb) λj hj=> .inr (qK hB hj)
theorem kgg(h:Kept (λj=>j=g) w w1)(k:Kept (λj=>j=g) w1 w2):Kept (λj=>j=g) w w2:=h.trans k λj e=> .inl e
theorem zhK{f:Nat->Nat}(h:Br w ob n f)(hk:Kept (λj=>j=g) w w')(hne:ob≠g):Br w' ob n f:=h.at' (hk.block ob h.lt hne)
theorem zfi{B1:Nat}{u:Value}{l:List Nat}(h:U.Owb B1 w u l)(hk:Kept (λj=>j=g) w w')(hg:g<B1):U.Owb B1 w' u l:=h.at λb hb=>hk.block b (h.lt b hb).2 (λe=>by have:=(h.lt b hb).1;omega)
def Rb(W:World)(B g r:Nat)(s:ByteArray)(D L n e:Nat)(x:St)(en:Ending)(w':World):Prop:=∃ (v ec:Nat) (y:St),en=.returned (.int .i64 (v:Int))/\v<2^n/\Rin w' B g r s D L ec y/\Kept (λj=>j=g) W w'/\((ec=0/\e=0/\bits n s D L x=.ok (v,y))\/(ec≠0/\(e=0->bits n s D L x=.error ec)/\(e≠0->ec=e)))
theorem z23(h:Rin W B g r s D L e x)(hs:s.size<=100000)(hz:z=(n:Int))(hn:n<=16):Calls prog 134 #[.pointer (some ⟨g,0,none⟩),.int .i64 z] W (Rb W B g r s D L n e x):=by
 subst hz;by_cases he:e=0
 · subst he
   refine(z4u h hs n hn).mono λen w' o=> ?_
   cases hb:bits n s D L x with
   |ok p=>
    rw[hb] at o;obtain⟨o1,o2,o3⟩:=o;have hv:p.1<2^n:=by
     unfold bits at hb
     split at hb
     · cases hb;exact M.nb_lt _ _ _
     · cases hb
    exact⟨p.1,0,p.2,o1,hv,o2,o3,.inl ⟨rfl,rfl,hb⟩⟩
   |error c=>
    rw[hb] at o;obtain⟨o1,o2,y,o3,o4⟩:=o;exact⟨0,c,y,o1,Nat.two_pow_pos n,o3,o4,.inr ⟨o2,λ_=>hb,λh=>absurd rfl h⟩⟩
 · exact(z6g h he n (by omega)).mono λen w' o=>⟨0,e,x,o.1,Nat.two_pow_pos n,h.same o.2,o.2.none _,.inr ⟨he,λq=>absurd q he,λ_=>rfl⟩⟩
end
theorem zfj{B1:Nat}{w:World}{u:Value}{l:List Nat}(h:U.Owb B1 w u l):(u=.slice none 0 0/\l=[])\/∃b c,u=.slice (some ⟨b,0,none⟩) l.length c/\B1<=b/\b<w.heap.size/\l.length<=c/\∀i,i<l.length->w.cell? ⟨b,i,none⟩=some (.int .u8 ((l.getD i 0:Nat):Int)):=by
 rcases h.2 with⟨e,h0⟩|⟨b,cap,cur,e,hb,hh,hnc,_⟩
 · exact .inl ⟨e,List.eq_nil_of_length_eq_zero h0⟩
 · subst e
   refine .inr ⟨b,cap,rfl,hb,(qW.1 hh).1,hnc,λi hi=> ?_⟩;have k:=h.cells (g:=b) rfl i (.int .u8 ((l.getD i 0:Nat):Int)) (by unfold U.clb;rw[List.getElem?_map,qE hi,List.getD,qE hi];rfl);rw[U.nadd_at,Nat.zero_add] at k;exact k
def Lns(W:World)(B g r:Nat)(s:ByteArray)(D L:Nat)(res:Except Nat ((List Nat×Nat×Nat)×St))(en:Ending)(w':World):Prop:=
 match res with
 |.ok p=> ∃A1 c1 A2 c2,en=.returned (.tuple #[.slice A1 p.1.2.1 c1,.slice A2 p.1.2.2 c2])/\p.1.2.1<=c1/\p.1.2.2<=c2/\Apn w' g r A1 p.1.2.1 (lit p.1.1)/\Apn w' g r A2 p.1.2.2 (dis p.1.1 p.1.2.1)/\(∀u∈p.1.1,u<=255)/\Rin w' B g r s D L 0 p.2/\Kept (λj=>j=g) W w'
 |.error c=>en=.returned (.tuple #[.slice none 0 0,.slice none 0 0])/\c≠0/\∃y,Rin w' B g r s D L c y/\Kept (λj=>j=g) W w'
section
variable {w:World} {B g r D L:Nat} {s:ByteArray} {x:St}
theorem zgA(h:Rin w B g r s D L 0 x)(hs:s.size<=100000)(K:Nat)(hK:8*s.size - x.1<K):
 Calls prog 137 #[.pointer (some ⟨g,0,none⟩)] w (Lns w B g r s D L (z5E K s D L x)):=by
 generalize hR:z5E K s D L x=R;unfold z5E at hR;have hmk:∀w,(Instr.makeSlice 26 (.int .i64 19) (.int .i64 19)).run prog w=.ok (.slice (some ⟨w.heap.size,0,none⟩) 19 19) (w.alloc (.cells (madeCells #[.int .u8 0] 19) 5)):=λw=>C.madeByte w 19 (by omega)
 have HI:=qH h;clear h;go_enter func137,ntmps137;go_wp2_with fail;refine(z23 HI.o hs (z:=5) (n:=5) rfl (by decide)).mono ?_
 rintro en w1 ⟨a,e1,x1,rfl,ha,i1,k1,q1⟩;have ha2:a<32:=ha;obtain⟨I1,K1,Q1⟩:=qh3 i1 k1 q1;clear i1 k1 q1 ha;go_wp2_with fail;refine(z23 I1.o hs (z:=5) (n:=5) rfl (by decide)).mono ?_
 rintro en w2 ⟨b,e2,x2,rfl,hb,i2,k2,q2⟩;have hb2:b<32:=hb;have I2:=qH i2;have K2:=qH (kgg K1.o k2);have Q2:=qH q2;clear i2 k2 q2 hb;go_wp2_with fail;refine(z23 I2.o hs (z:=4) (n:=4) rfl (by decide)).mono ?_
 rintro en w3 ⟨k,e3,x3,rfl,hk,i3,k3,q3⟩;have hk2:k<16:=hk;have hst:(e3=0/\zbh K a b k s D L x3=R/\x.1<=x3.1)\/(e3≠0/\R=.error e3):=by
  rcases Q1.o with⟨rfl,_,q1⟩|⟨n1,q1,_⟩
  · rw[z00 q1] at hR
    rcases Q2.o with⟨rfl,_,q2⟩|⟨n2,q2,_⟩
    · rw[z00 q2] at hR
      rcases q3 with⟨rfl,_,q3⟩|⟨n3,q3,_⟩
      · rw[z00 q3] at hR
        have m1:=((z01.bits 5).mono q1).1;have m2:=((z01.bits 5).mono q2).1;have m3:=((z01.bits 4).mono q3).1;exact .inl ⟨rfl,hR,by omega⟩
      · rw[z03 (q3 rfl)] at hR;exact .inr ⟨n3,hR.symm⟩
    · rw[z03 (q2 rfl)] at hR
      rcases q3 with⟨_,q,_⟩|⟨n3,_,q3⟩
      · exact absurd q n2
      · rw[q3 n2];exact .inr ⟨n2,hR.symm⟩
  · rw[z03 (q1 (by first|rfl|trivial))] at hR
    have e21:e2=e1:=by
     rcases Q2.o with⟨_,q,_⟩|⟨_,_,q2⟩
     · exact absurd q n1
     · exact q2 n1
    subst e21;rcases q3 with⟨_,q,_⟩|⟨n3,_,q3⟩
    · exact absurd q n1
    · rw[q3 n1];exact .inr ⟨n1,hR.symm⟩
 have I3:=qH i3;have K3:=qH (kgg K2.o k3);obtain⟨cp3,c30,c31,c32,_⟩:=i3.cells;clear i3 k3 q3 hk hR I1 I2 K1 K2 Q1 Q2 c30 c31;have hal3:=I3.o.al;rcases hst with⟨rfl,hR,hx3⟩|⟨ne3,hR⟩
 · unfold zbh at hR
   by_cases qa:286<a+257
   · rw[if_pos (.inl qa)] at hR
     have hRe:R=.error 162:=hR.symm;subst hRe;have d1:decide (286<(a:Int)+257)=true:=q9T (by omega);have dn:((162:Int)==0)=false:=(by decide);have dp:((162:Int) !=0)=true:=(by decide);have HF:=qH (z1b I3.o 162 162 rfl);have dk:decide ((0:Int)<(k:Int)+4)=true:=q9T (by omega);clear hR qa
     go_wp2_with (first
      |(go_at_call 139;(with_reducible refine HF.o.mono ?_);rintro e w7 ⟨rfl,i7,k7⟩;have I7:=qH i7;have K7:=qH (kgg K3.o k7);clear i7 k7)
      |(go_at_call 150;(with_reducible refine(V.order_any _).mono ?_);rintro e w8 ⟨rfl,o8,b8⟩
        have b9:=(Below.refl w7.heap.size w7).alloc qR (.cells (madeCells #[.int .u8 0] 19) 5);have b10:Below w7.heap.size w7 w8:=b9.trans (b8.mono b9.size);have i8:=(I7.o).below b10;obtain⟨cp8,c80,c81,c82,_⟩:=i8.cells;have I8:=qH i8;have K8:=qH ((K7.o).trans (Kept.of_below b10) (λ_ e=>e.elim));clear o8 b8 b9 b10 i8 c80 c81))
     clear hmk
     go_loopw [9] (λi wx=>i=.int .i64 0/\wx=w8) (λ_ _=>0)
     case atStart=>exact⟨rfl,rfl⟩
     case round=>
      obtain⟨rfl,rfl⟩:=hrel;go_wp2_with fail
      go_loopw [10] (λv wx=>v=.slice none 0 0/\wx=wr) (λ_ _=>0)
      case atStart=>exact⟨rfl,rfl⟩
      case round=>
       obtain⟨rfl,rfl⟩:=hrel;go_wp2_with fail;go_ret2;exact⟨rfl,(by decide),_,I8.o,K8.o⟩
   · by_cases qb:30<b+1
     · rw[if_pos (.inr qb)] at hR
       have hRe:R=.error 162:=hR.symm;subst hRe;have d0:decide (286<(a:Int)+257)=false:=qF (by omega);have d1:decide (30<(b:Int)+1)=true:=q9T (by omega);have dn:((162:Int)==0)=false:=(by decide);have dp:((162:Int) !=0)=true:=(by decide);have HF:=qH (z1b I3.o 162 162 rfl);have dk:decide ((0:Int)<(k:Int)+4)=true:=q9T (by omega);clear hR qa qb
       go_wp2_with (first
        |(go_at_call 139;(with_reducible refine HF.o.mono ?_);rintro e w7 ⟨rfl,i7,k7⟩;have I7:=qH i7;have K7:=qH (kgg K3.o k7);clear i7 k7)
        |(go_at_call 150;(with_reducible refine(V.order_any _).mono ?_);rintro e w8 ⟨rfl,o8,b8⟩
          have b9:=(Below.refl w7.heap.size w7).alloc qR (.cells (madeCells #[.int .u8 0] 19) 5);have b10:Below w7.heap.size w7 w8:=b9.trans (b8.mono b9.size);have i8:=(I7.o).below b10;obtain⟨cp8,c80,c81,c82,_⟩:=i8.cells;have I8:=qH i8;have K8:=qH ((K7.o).trans (Kept.of_below b10) (λ_ e=>e.elim));clear o8 b8 b9 b10 i8 c80 c81))
       clear hmk
       go_loopw [9] (λi wx=>i=.int .i64 0/\wx=w8) (λ_ _=>0)
       case atStart=>exact⟨rfl,rfl⟩
       case round=>
        obtain⟨rfl,rfl⟩:=hrel;go_wp2_with fail
        go_loopw [10] (λv wx=>v=.slice none 0 0/\wx=wr) (λ_ _=>0)
        case atStart=>exact⟨rfl,rfl⟩
        case round=>
         obtain⟨rfl,rfl⟩:=hrel;go_wp2_with fail;go_ret2;exact⟨rfl,(by decide),_,I8.o,K8.o⟩
     · rw[if_neg (λh=>h.elim qa qb)] at hR
       have d0:decide (286<(a:Int)+257)=false:=qF (by omega);have d1:decide (30<(b:Int)+1)=false:=qF (by omega)
       go_wp2_with (go_at_call 150;(with_reducible refine(V.order_any _).mono ?_);rintro e w8 ⟨rfl,o8,b8⟩
                    have b9:=(Below.refl w3.heap.size w3).alloc qR (.cells (madeCells #[.int .u8 0] 19) 5);have b10:Below w3.heap.size w3 w8:=b9.trans (b8.mono b9.size);have br8:=(Br.made' w3 19).below b8 (Br.made' w3 19).lt;have o9:U.IsBys w8 (some ⟨w3.heap.size+1,0,none⟩) 19 V.ord:=(by simpa using o8);have I8:=qH ((I3.o).below b10);have K8:=qH ((K3.o).trans (Kept.of_below b10) (λ_ e=>e.elim));obtain⟨Br8,O9⟩:=qh2 br8 o9;clear o8 o9 br8 b8 b9 b10)
       clear hmk;have hsz:=K3.o.size;have hg3:=HI.o.glt;have hr3:=HI.o.rlt;obtain⟨ob,hob⟩:∃ob,w3.heap.size=ob:=⟨_,rfl⟩
       obtain⟨ow,how⟩:∃ow,ob+1=ow:=⟨_,rfl⟩
       rw[hob] at Br8 O9 hsz ⊢;rw[how] at O9 ⊢;have hobg:ob≠g:=(by omega);have hobr:ob≠r:=(by omega);have howg:ow≠g:=(by omega);have howb:ow≠ob:=by omega
       have HOrd:=qH (λ(W:World) (hk:Kept (λj=>j=g\/j=ob) w8 W) (j:Nat) (hj:j<19)=>(show W.cell? ⟨ow,j,none⟩=some (.int .u8 ((od.getD j 0:Nat):Int)) from by
        obtain⟨b',o',e1,e2,e3⟩:=O9.o.at (by decide);injection e1 with e1
        injection e1 with e1 e4 _
        subst e1;subst e4;have:=e3 j hj;rw[Nat.zero_add,ziI] at this;exact(World.cell?_of_block (a:=⟨ow,j,none⟩) (hk.block ow e2 (λe=>by rcases e with e|e<;>omega))).trans this))
       have HKw:=qH (λ(W:World) (hk:Kept (λj=>j=g\/j=ob) w8 W)=>(show Kept (λj=>j=g) w W from K8.o.trans hk (λj e=>by rcases e with e|e;exact .inl e;exact .inr (by omega))));have HSt:=qH (show bnd (ownR (k+4 - 0) 0 λ_=>0) (λo=>z6w K a b o) s D L x3=R from hR);clear hR qa qb hob how O9 c32
       go_loopw [9] (λi wr=> ∃j:Nat,j<=k+4/\i=.int .i64 j/\Kept (λj=>j=g\/j=ob) w8 wr/\((∃o x',Rin wr B g r s D L 0 x'/\Br wr ob 19 o/\(∀i,o i<=7)/\x.1<=x'.1/\bnd (ownR (k+4 - j) j o) (λo=>z6w K a b o) s D L x'=R)\/(∃c y,R=.error c/\c≠0/\Rin wr B g r s D L c y))) (λi _=>k+4 - (intOf i).toNat)
       case atStart=>exact⟨0,qZ,rfl,Kept.refl _ _,.inl ⟨_,_,I8.o,Br8.o,λ_=>qZ,hx3,HSt.o⟩⟩
       case round=>
        obtain⟨j,hj,rfl,hkk,hcase⟩:=hrel;have HKk:=qH hkk;clear hkk HSt;rcases hcase with⟨o,x',hI,hBr,ho7,hxx,hRj⟩|⟨c,y,hRc,hc0,hI⟩
        · obtain⟨cp8,c80,c81,c82,_⟩:=hI.cells
          obtain⟨HI9,HBr⟩:=qh2 hI hBr;clear hI hBr c80 c81;by_cases hlt:j<k+4
          · have d2:decide ((j:Int)<(k:Int)+4)=true:=q9T (by omega)
            have hj19:j<19:=(by omega);have co:=HOrd.o wr HKk.o j hj19;have hq19:od.getD j 0<19:=(by decide:∀j,j<19->od.getD j 0<19) j hj19;generalize hq:od.getD j 0=q at co hq19;have HBt:=qH (λ(W:World) (hk:Kept NoB wr W)=>z23 (z:=3) (n:=3) (HI9.o.same hk) hs rfl (by decide));obtain⟨HCo,HQ,HRj⟩:=qh3 co hq hRj;clear hRj hq;go_wp2_with fail
            go_region_with (go_at_call 134;(with_reducible refine(HBt.o _ (by first|exact(Kept.refl _ _).drew|exact Kept.refl _ _|exact(Kept.refl _ _).drewN _)).mono ?_);rintro en w9 ⟨v,ec,y,rfl,hv,i9,k9,q9⟩
                            have hv8:v<8:=hv;have wv:IntKind.u8.wrap (v:Int)=(v:Int):=(by rw[IntKind.wrap_u8'];omega);have br9:=zhK (w:=wr) (w':=w9) HBr.o (by first|exact k9|exact⟨k9.os,k9.tape,k9.output,k9.size,k9.block⟩|skip) hobg;have fz9:=br9.frozen q;have cb9:=br9.cell hq19;have co9:w9.cell? ⟨ow,j,none⟩=some (.int .u8 (q:Int)):=(k9.cell (a:=⟨ow,j,none⟩) HCo.o howg);obtain⟨HBr9,HI10⟩:=qh2 br9 i9;have HK9:=qH (show Kept (λj=>j=g) wr w9 from by first|exact k9|exact kgg ((Kept.refl _ wr).drew) k9);have HQ9:=qH q9;clear br9 i9 k9 q9 hv)
            all_goals
             go_wp2_with fail;go_roundw
             case rel=>
              refine⟨j+1,by omega,by go_num,(HKk.o.trans HK9.o (λ_ e=> .inl (.inl e))).setCell ⟨ob,q,none⟩ (.inl (.inr rfl)) _,?_⟩;have hRn:=HRj.o;rw[show k+4 - j=(k+4 - (j+1))+1 by omega,ownR,z0i] at hRn;rcases HQ9.o with⟨rfl,_,qb⟩|⟨nc,qb,_⟩
              · refine .inl ⟨λi=>if i=q then v else o i,y,HI10.o.set_off hobg hobr,HBr9.o.set q v,λi=> ?_,qK hxx ((z01.bits 3).mono qb).1,?_⟩
                · show(if i=q then v else o i)<=7
                  by_cases e:i=q
                  · rw[if_pos e];omega
                  · rw[if_neg e];exact ho7 i
                · rw[z00 qb,HQ.o] at hRn
                  exact hRn
              · rw[z03 (qb (by first|rfl|trivial))] at hRn
                exact .inr ⟨ec,y,hRn.symm,nc,HI10.o.set_off hobg hobr⟩
             case measure=>simp[intOf];omega
          · obtain rfl:j=k+4:=by omega
            rw[Nat.sub_self] at hRj;have hR3:z6w K a b o s D L x'=R:=hRj;have HKd:=qH (C.rkind_any (some ⟨ob,0,none⟩) 19 19 o wr (by decide) (λi=>by have:=ho7 i;omega) HBr.o.nums);unfold z6w at hR3;clear hRj;obtain⟨κ,hκ⟩:∃κ,kind o 19=κ:=⟨_,rfl⟩
            rw[hκ] at HKd;by_cases hk2:kind o 19≠2
            · rw[if_pos hk2] at hR3
              have hRe:R=.error 162:=hR3.symm;subst hRe;have d3:((κ:Int) !=2)=true:=(by rw[bne_iff_ne];omega);have dn:((162:Int)==0)=false:=(by decide);have dp:((162:Int) !=0)=true:=(by decide);have HF:=qH (z1b HI9.o 162 162 rfl);have HKw9:=qH (HKw.o _ HKk.o);clear hR3 hk2 hκ
              go_wp2_with (first
               |(go_at_call 181;(with_reducible refine HKd.o.mono ?_);rintro e w10 ⟨rfl,rfl⟩)
               |(go_at_call 139;(with_reducible refine HF.o.mono ?_);rintro e w11 ⟨rfl,i7,k7⟩;obtain⟨cp11,c110,c111,c112,_⟩:=i7.cells;have I7:=qH i7;have K7:=qH (kgg HKw9.o k7);clear i7 k7 c110 c111))
              go_wp2_with fail
              go_loopw [10] (λv wx=>v=.slice none 0 0/\wx=w11) (λ_ _=>0)
              case atStart=>exact⟨rfl,rfl⟩
              case round=>
               obtain⟨rfl,rfl⟩:=hrel;go_wp2_with fail;go_ret2;exact⟨rfl,(by decide),_,I7.o,K7.o⟩
            · rw[if_neg hk2] at hR3
              have d3:((κ:Int) !=2)=false:=(by rw[bne_eq_false_iff_eq];omega);have hTb:Tbl o 19:=.inr (.inr (Classical.byContradiction hk2));have HKw9:=qH (HKw.o _ HKk.o);clear hk2 hκ;go_wp2_with (go_at_call 181;(with_reducible refine HKd.o.mono ?_);rintro e w10 ⟨rfl,rfl⟩);have HoBr:=qH HBr.o.lt;have hwB0:=HKw9.o.size;have hgB0:=HI9.o.glt;have hrB0:=HI9.o.rlt;obtain⟨B1,hB1⟩:∃B1,wr.heap.size=B1:=⟨_,rfl⟩
              have hoB:ob<B1:=(by rw[<-hB1];exact HoBr.o);rw[hB1] at hwB0 hgB0 hrB0;have hwB:w.heap.size<=B1:=hwB0;have hgB:g<B1:=hgB0;have hrB:r<B1:=hrB0;have HS1:=qH (show B1<=wr.heap.size from by omega);have HR3:=qH hR3;have hK1:8*s.size - x'.1<K:=(by omega);have HTb:=qH hTb;clear hB1 hwB0 hgB0 hrB0 hR3 hTb c82
              go_loopw [10] (λv wx=> ∃all x2,U.Owb B1 wx v all/\(∀u∈all,u<=15)/\Br wx ob 19 o/\Kept (λj=>j=g) w wx/\B1<=wx.heap.size/\Rin wx B g r s D L 0 x2/\((∃k2,all.length<=a+257+(b+1)/\8*s.size - x2.1<k2/\bnd (loopR (len1 o (a+257+(b+1))) k2 all) (λall=>zbg a b all) s D L x2=R)\/(a+257+(b+1)<all.length/\all.length<=a+257+(b+1)+138/\R=.error 162))) (λ_ wx=>rms g (8*s.size) wx)
              case atStart=>exact⟨[],x',U.Owb.nil _ _,λu h=>absurd h (by simp),HBr.o,HKw9.o,HS1.o,HI9.o,.inl ⟨K,qZ,hK1,HR3.o⟩⟩
              case round=>
               obtain⟨all,x2,hOw,h15,hBr2,hK2,hS2,hI2,hcs⟩:=hrel;clear HR3 HS1;obtain⟨A,c,rfl,hby⟩:=hOw.bys (λu hu=>by have:=h15 u hu;omega) (by unfold maxLen;rcases hcs with⟨_,h,_⟩|⟨_,h,_⟩<;>omega);obtain⟨HO2,H15,Br2,K2,S2,I2⟩:=qh6 hOw h15 hBr2 hK2 hS2 hI2;have HMs:=qH (hI2.start.rms_0 (8*s.size));have hal2:=hI2.al;obtain⟨cp2,c20,c21,c22,_⟩:=hI2.cells;generalize hm:all.length=m at HO2 hcs ⊢;have HM:=qH hm;clear hOw h15 hBr2 hK2 hS2 hI2 hby c20 c21 hm;rcases hcs with⟨k2,hmN,hk2,hRr⟩|⟨hmN,hm138,hRe⟩
               · by_cases hlt:m<a+257+(b+1)
                 · have d4:decide ((m:Int)<(a:Int)+257+((b:Int)+1))=true:=q9T (by omega)
                   obtain⟨k2,rfl⟩:∃j,k2=j+1:=⟨k2 - 1,by omega⟩
                   have HRr:=qH hRr;have hAp:Apn wr g r (some ⟨ob,0,none⟩) 19 o:=λ_=>⟨ob,0,rfl,Br2.o.lt,hobg,hobr,λi hi=>by rw[Nat.zero_add];exact Br2.o.cell hi⟩
                   have HCd:=qH (zay (c:=19) I2.o hs hAp (λi=>by have:=ho7 i;omega) HTb.o (by decide));clear hRr hAp;go_wp2_with fail;refine HCd.o.mono ?_
                   intro en w5 o5;have hl0:∀ (res:Except Nat ((List Nat ⊕ List Nat)×St)),len1 o (a+257+(b+1)) all s D L x2=res->(∀c,res=.error c->R=.error c):=λres h1 c h2=>by
                    have h3:=HRr.o;rw[loopR,z0i,z03 (h1.trans h2)] at h3;exact h3.symm
                   have HL0:=qH hl0;clear hl0;cases hn:nxt o 19 s D L x2 with
                   |error c5=>
                    rw[hn] at o5;obtain⟨o1,hc5,y,i5,k5⟩:=o5;unfold z2g at o1;subst o1
                    have hRe:R=.error c5:=HL0.o _ rfl c5 (by
                     unfold len1;rw[if_neg (by rw[HM.o];omega)];exact z03 hn)
                    subst hRe;have HRb:=qH (λw=>show Calls prog 151 #[.int .u8 0] w λx w'=>x=.returned (.int .i64 0)/\w=w' from U.rbits_any 0 w (by decide));have HB0:=qH (show Calls prog 134 #[.pointer (some ⟨g,0,none⟩),.int .i64 0] w5 λe w'=>e=.returned (.int .i64 0)/\Kept NoB w5 w' from z6g i5 hc5 0 (by decide));have dn:((c5:Int) !=0)=true:=(by rw[bne_iff_ne];omega);have I5:=qH i5;have K5:=qH (kgg K2.o k5);have Hc5:=qH hc5;clear hn i5 k5 HCd
                    go_wp2_with (first
                     |(go_at_call 151;(with_reducible refine(HRb.o _).mono ?_);rintro e w6 ⟨rfl,rfl⟩)
                     |(go_at_call 134;(with_reducible refine HB0.o.mono ?_);rintro e w6 ⟨rfl,b6⟩;have i6:=I5.o.same b6;obtain⟨cp6,c60,c61,c62,_⟩:=i6.cells;have I6:=qH i6;have K6:=qH (K5.o.trans b6 (λ_ e=>e.elim));clear b6 i6 c60 c61))
                    go_ret2;exact⟨rfl,Hc5.o,_,I6.o,K6.o⟩
                   |ok p=>
                    obtain⟨y,x3⟩:=p;rw[hn] at o5;obtain⟨o1,i5,k5⟩:=o5;unfold z9n at o1;simp only at o1 i5;subst o1;obtain⟨_,hy19,hy0,hyl,_,hx3⟩:=z15 hn hal2;have hx32:x2.1<x3.1/\x3.1<=8*s.size:=(by rw[hx3];simp only;omega);have hmx:=(by decide:∀y,y<19->max (rbs y) 0=(rbm y:Int)/\rbm y<=7) y hy19;have HRb:=qH (λw=>U.rbits_any y w (by omega));obtain⟨ρ,hρ⟩:∃ρ,rbs y=ρ:=⟨_,rfl⟩
                    obtain⟨M0,hM0⟩:∃M0,rbm y=M0:=⟨_,rfl⟩
                    rw[hρ,hM0] at hmx;rw[hρ] at HRb;have hmx1:=hmx.1;have hM7:=hmx.2;have wy8:IntKind.u8.wrap (y:Int)=(y:Int):=(by rw[IntKind.wrap_u8'];omega);have I5:=qH i5;have K5:=qH (kgg K2.o k5);have O5:=qH (zfi HO2.o k5 hgB);have Br5:=qH (zhK Br2.o k5 hobg);have S5:=qH (qK S2.o k5.size);obtain⟨HN,HM0⟩:=qh2 hn hM0;clear hn i5 k5 HCd hx3 hmx hρ hM0 hy0 hyl;go_wp2_with (go_at_call 151;(with_reducible refine(HRb.o _).mono ?_);rintro e w6 ⟨rfl,rfl⟩);refine(z4u I5.o hs M0 (by omega)).mono ?_
                    intro en w6 o6;cases hb:bits M0 s D L x3 with
                    |error c5=>
                     rw[hb] at o6;obtain⟨o1,hc5,y6,i6,k6⟩:=o6;unfold z2g at o1;subst o1
                     have hRe:R=.error c5:=HL0.o _ rfl c5 (by
                      unfold len1;rw[if_neg (by rw[HM.o];omega),z00 HN.o,HM0.o];exact z03 hb)
                     subst hRe;have dn:((c5:Int) !=0)=true:=(by rw[bne_iff_ne];omega);obtain⟨cp6,c60,c61,c62,_⟩:=i6.cells;have I6:=qH i6;have K6:=qH (kgg K5.o k6);have Hc5:=qH hc5;clear hb i6 k6 c60 c61;go_wp2_with fail;go_ret2;exact⟨rfl,Hc5.o,_,I6.o,K6.o⟩
                    |ok p=>
                     obtain⟨e,x4⟩:=p;rw[hb] at o6;obtain⟨o1,i6,k6⟩:=o6;unfold z9n at o1;simp only at o1 i6;subst o1;obtain⟨he,hx4⟩:=z0l hb 128 (Nat.pow_le_pow_right (by decide) hM7:2^M0<=2^7)
                     have HX4:=qH (show 8*s.size - x4.1<k2/\x2.1<x4.1/\x4.1<=8*s.size from by
                      have h1:=(z01.bits M0).inn hb hx32.2;have h2:x3.1<=x4.1:=(by rw[hx4];simp only;omega);omega)
                     have HBb:=qH (show bits (rbm y) s D L x3=.ok (e,x4) from by rw[HM0.o];exact hb);have we8:IntKind.u8.wrap (e:Int)=(e:Int):=(by rw[IntKind.wrap_u8'];omega);have HTi:=qH (λw=>U.rtimes_any y e w (by omega) (by omega));obtain⟨T,hT⟩:∃T,tms ⟨y,e⟩=T:=⟨_,rfl⟩
                     have hT138:=z9L ⟨y,e⟩;rw[hT] at HTi hT138;obtain⟨HTm,HT138⟩:=qh2 hT hT138;obtain⟨cp6,c60,c61,c62,_⟩:=i6.cells;have I6:=qH i6;have K6:=qH (kgg K5.o k6);have O6:=qH (zfi O5.o k6 hgB);have Br6:=qH (zhK Br5.o k6 hobg);have S6:=qH (qK S5.o k6.size);clear hb i6 k6 c60 c61 hT hT138 hx4 hmx1 hx32 HM0 HRb;by_cases h16:y=16
                     · have e1:((y:Int)==16)=true:=by rw[beq_iff_eq];omega
                       have e2:decide (16<(y:Int))=false:=qF (by omega);by_cases hm0:m=0
                       · have hRe:R=.error 162:=HL0.o _ rfl 162 (by
                          unfold len1;rw[if_neg (by rw[HM.o];omega),z00 HN.o,z00 HBb.o,if_pos (.inl ⟨h16,List.eq_nil_of_length_eq_zero (by rw[HM.o];exact hm0)⟩)];rfl)
                         subst hRe;have e3:((m:Int)==0)=true:=(by rw[beq_iff_eq];omega);have HF:=qH (z1b I6.o 162 162 rfl);clear h16 hm0;go_wp2_with (go_at_call 139;(with_reducible refine HF.o.mono ?_);rintro e w7 ⟨rfl,i7,k7⟩;have I7:=qH i7;have K7:=qH (kgg K6.o k7);clear i7 k7);go_ret2;exact⟨rfl,by decide,_,I7.o,K7.o⟩
                       · have e3:((m:Int)==0)=false:=by rw[qN];omega
                         rcases zfj O6.o with⟨_,h0⟩|⟨bA,cA,hAe,hbA,hbA2,hcA,hcell⟩
                         · exact absurd (by rw[<-HM.o,h0];rfl) hm0
                         injection hAe with hA1 hA2 hA3
                         subst hA1;have hla:=zdZ all;rw[HM.o] at hla hcell;obtain⟨l1,hl1⟩:∃l1,m - 1=l1:=⟨_,rfl⟩
                         have z3:IntKind.i64.wrap ((m:Int) - 1)=(l1:Int):=(by rw[IntWalk.i64_in _ ⟨by omega,by omega⟩];omega);have z4:l1<m:=(by omega);have c6A:=hcell l1 z4;rw[hl1] at hla;have hv15:all.getD l1 0<=15:=by
                          rw[List.getD,qE (by rw[HM.o];exact z4)];exact H15.o _ (List.getElem_mem _)
                         generalize hvv:all.getD l1 0=vv at c6A hla hv15;have HVl:=qH (show vlr all ⟨y,e⟩=vv from by unfold vlr;simp only;rw[if_pos h16];exact hla);have HVv:=qH hv15;have HNo:=qH (show ¬(y=16/\all=[]) from λq=>hm0 (by rw[<-HM.o,q.2];rfl));clear h16 hm0 hla hcell hl1 hvv hv15 hcA hA2 hA3;go_wp2_with (go_at_call 182;(with_reducible refine(HTi.o _).mono ?_);rintro e w7 ⟨rfl,b7⟩;have I7:=qH (I6.o.below b7);have K7:=qH (K6.o.trans (Kept.of_below b7) (λ_ e=>e.elim));have O7:=qH (O6.o.below b7);have Br7:=qH (Br6.o.below b7 Br6.o.lt);have S7:=qH (qK S6.o b7.size);clear b7)
                         go_loopw [10,15] (λy3 z wx=> ∃i:Nat,i<=T/\z=.int .i64 i/\U.Owb B1 wx y3 (all++List.replicate i vv)/\Br wx ob 19 o/\Kept (λj=>j=g) w wx/\B1<=wx.heap.size/\Rin wx B g r s D L 0 x4) (λ_ z _=>T - (intOf z).toNat)
                         case atStart=>exact⟨0,qZ,rfl,by rw[List.replicate_zero,List.append_nil];exact O7.o,Br7.o,K7.o,S7.o,I7.o⟩
                         case round=>
                          obtain⟨i,hi,rfl,hoi,hbri,hki,hsi,hIi⟩:=hrel;obtain⟨HOi,HBri,HKi,HIi,HSi⟩:=qh5 hoi hbri hki hIi hsi;clear hoi hbri hki hIi hsi;by_cases hik:i<T
                          · have hT8:T<=138:=HT138.o
                            go_wp2_with (at_builtin;refine U.wpList_ab rfl (.tmp 130) (.tmp 132) rfl B1 _ (all++List.replicate i vv) rfl (HOi.o.alloc _) wr.heap.size 1 vv rfl (by simp) (by rw[qA,List.length_replicate,HM.o];have:=HT138.o;omega) (by have:=HSi.o;simp;omega) ?_;intro v' w' o' g' b';have HO4:=qH o';have HB4:=qH (((Below.refl B1 wr).alloc HSi.o _).trans b');clear o' g' b');go_roundw
                            case rel=>exact⟨i+1,by omega,by go_num,by rw[List.replicate_succ',<-qD];exact HO4.o,HBri.o.below HB4.o hoB,zbn HKi.o HB4.o hwB,qK HSi.o HB4.o.size,HIi.o.low HB4.o hgB hrB⟩
                            case measure=>(simp[intOf];try omega)
                          · obtain rfl:i=T:=by omega
                            go_wp2_with fail;go_roundw
                            case rel=>
                             have hnl:(all++List.replicate i vv).length=m+i:=(by rw[qA,List.length_replicate,HM.o]);refine⟨all++List.replicate i vv,x4,HOi.o,λu hu=> ?_,HBri.o,HKi.o,HSi.o,HIi.o,?_⟩
                             · rcases List.mem_append.1 hu with q|q
                               · exact H15.o u q
                               · rw[(List.mem_replicate.1 q).2];exact HVv.o
                             · have hl1:len1 o (a+257+(b+1)) all s D L x2=(if a+257+(b+1)<m+i then fl 162 else pur (.inl (all++List.replicate i vv)):Rm (List Nat ⊕ List Nat)) s D L x4:=by
                                unfold len1;rw[if_neg (by rw[HM.o];omega),z00 HN.o,z00 HBb.o];simp only[HTm.o,HVl.o,HM.o];by_cases q:a+257+(b+1)<m+i
                                · rw[if_pos (.inr q),if_pos q]
                                · rw[if_neg (λh=>h.elim HNo.o q),if_neg q]
                               have hRr:=HRr.o;rw[loopR,z0i] at hRr;by_cases q:a+257+(b+1)<m+i
                               · rw[if_pos q] at hl1
                                 rw[z03 (show len1 o (a+257+(b+1)) all s D L x2=.error 162 from hl1)] at hRr;exact .inr ⟨by rw[hnl];exact q,by rw[hnl];have:=HT138.o;omega,hRr.symm⟩
                               · rw[if_neg q] at hl1
                                 rw[z00 (show len1 o (a+257+(b+1)) all s D L x2=.ok (.inl (all++List.replicate i vv),x4) from hl1)] at hRr;exact .inl ⟨k2,by rw[hnl];omega,by have:=HX4.o;omega,hRr⟩
                            case measure=>rw[HIi.o.start.rms_0,HMs.o];have:=HX4.o;omega
                     · have e1:((y:Int)==16)=false:=by rw[qN];omega
                       have HNo:=qH (show ¬(y=16/\all=[]) from λq=>h16 q.1);by_cases h17:16<y
                       · have e2:decide (16<(y:Int))=true:=q9T (by omega)
                         have HVl:=qH (show vlr all ⟨y,e⟩=0 from by unfold vlr;simp only;rw[if_neg h16,if_pos h17]);have HVv:=qH (show(0:Nat)<=15 by omega);clear h16 h17;go_wp2_with (go_at_call 182;(with_reducible refine(HTi.o _).mono ?_);rintro e w7 ⟨rfl,b7⟩;have I7:=qH (I6.o.below b7);have K7:=qH (K6.o.trans (Kept.of_below b7) (λ_ e=>e.elim));have O7:=qH (O6.o.below b7);have Br7:=qH (Br6.o.below b7 Br6.o.lt);have S7:=qH (qK S6.o b7.size);clear b7)
                         go_loopw [10,15] (λy3 z wx=> ∃i:Nat,i<=T/\z=.int .i64 i/\U.Owb B1 wx y3 (all++List.replicate i 0)/\Br wx ob 19 o/\Kept (λj=>j=g) w wx/\B1<=wx.heap.size/\Rin wx B g r s D L 0 x4) (λ_ z _=>T - (intOf z).toNat)
                         case atStart=>exact⟨0,qZ,rfl,by rw[List.replicate_zero,List.append_nil];exact O7.o,Br7.o,K7.o,S7.o,I7.o⟩
                         case round=>
                          obtain⟨i,hi,rfl,hoi,hbri,hki,hsi,hIi⟩:=hrel;obtain⟨HOi,HBri,HKi,HIi,HSi⟩:=qh5 hoi hbri hki hIi hsi;clear hoi hbri hki hIi hsi;by_cases hik:i<T
                          · have hT8:T<=138:=HT138.o
                            go_wp2_with (at_builtin;refine U.wpList_ab rfl (.tmp 130) (.tmp 132) rfl B1 _ (all++List.replicate i 0) rfl (HOi.o.alloc _) wr.heap.size 1 0 rfl (by simp) (by rw[qA,List.length_replicate,HM.o];have:=HT138.o;omega) (by have:=HSi.o;simp;omega) ?_;intro v' w' o' g' b';have HO4:=qH o';have HB4:=qH (((Below.refl B1 wr).alloc HSi.o _).trans b');clear o' g' b');go_roundw
                            case rel=>exact⟨i+1,by omega,by go_num,by rw[List.replicate_succ',<-qD];exact HO4.o,HBri.o.below HB4.o hoB,zbn HKi.o HB4.o hwB,qK HSi.o HB4.o.size,HIi.o.low HB4.o hgB hrB⟩
                            case measure=>(simp[intOf];try omega)
                          · obtain rfl:i=T:=by omega
                            go_wp2_with fail;go_roundw
                            case rel=>
                             have hnl:(all++List.replicate i 0).length=m+i:=(by rw[qA,List.length_replicate,HM.o]);refine⟨all++List.replicate i 0,x4,HOi.o,λu hu=> ?_,HBri.o,HKi.o,HSi.o,HIi.o,?_⟩
                             · rcases List.mem_append.1 hu with q|q
                               · exact H15.o u q
                               · rw[(List.mem_replicate.1 q).2];exact HVv.o
                             · have hl1:len1 o (a+257+(b+1)) all s D L x2=(if a+257+(b+1)<m+i then fl 162 else pur (.inl (all++List.replicate i 0)):Rm (List Nat ⊕ List Nat)) s D L x4:=by
                                unfold len1;rw[if_neg (by rw[HM.o];omega),z00 HN.o,z00 HBb.o];simp only[HTm.o,HVl.o,HM.o];by_cases q:a+257+(b+1)<m+i
                                · rw[if_pos (.inr q),if_pos q]
                                · rw[if_neg (λh=>h.elim HNo.o q),if_neg q]
                               have hRr:=HRr.o;rw[loopR,z0i] at hRr;by_cases q:a+257+(b+1)<m+i
                               · rw[if_pos q] at hl1
                                 rw[z03 (show len1 o (a+257+(b+1)) all s D L x2=.error 162 from hl1)] at hRr;exact .inr ⟨by rw[hnl];exact q,by rw[hnl];have:=HT138.o;omega,hRr.symm⟩
                               · rw[if_neg q] at hl1
                                 rw[z00 (show len1 o (a+257+(b+1)) all s D L x2=.ok (.inl (all++List.replicate i 0),x4) from hl1)] at hRr;exact .inl ⟨k2,by rw[hnl];omega,by have:=HX4.o;omega,hRr⟩
                            case measure=>rw[HIi.o.start.rms_0,HMs.o];have:=HX4.o;omega
                       · have e2:decide (16<(y:Int))=false:=qF (by omega)
                         have HVl:=qH (show vlr all ⟨y,e⟩=y from by unfold vlr;simp only;rw[if_neg h16,if_neg h17]);have HVv:=qH (show y<=15 by omega);clear h16 h17;go_wp2_with (go_at_call 182;(with_reducible refine(HTi.o _).mono ?_);rintro e w7 ⟨rfl,b7⟩;have I7:=qH (I6.o.below b7);have K7:=qH (K6.o.trans (Kept.of_below b7) (λ_ e=>e.elim));have O7:=qH (O6.o.below b7);have Br7:=qH (Br6.o.below b7 Br6.o.lt);have S7:=qH (qK S6.o b7.size);clear b7)
                         go_loopw [10,15] (λy3 z wx=> ∃i:Nat,i<=T/\z=.int .i64 i/\U.Owb B1 wx y3 (all++List.replicate i y)/\Br wx ob 19 o/\Kept (λj=>j=g) w wx/\B1<=wx.heap.size/\Rin wx B g r s D L 0 x4) (λ_ z _=>T - (intOf z).toNat)
                         case atStart=>exact⟨0,qZ,rfl,by rw[List.replicate_zero,List.append_nil];exact O7.o,Br7.o,K7.o,S7.o,I7.o⟩
                         case round=>
                          obtain⟨i,hi,rfl,hoi,hbri,hki,hsi,hIi⟩:=hrel;obtain⟨HOi,HBri,HKi,HIi,HSi⟩:=qh5 hoi hbri hki hIi hsi;clear hoi hbri hki hIi hsi;by_cases hik:i<T
                          · have hT8:T<=138:=HT138.o
                            go_wp2_with (at_builtin;refine U.wpList_ab rfl (.tmp 130) (.tmp 132) rfl B1 _ (all++List.replicate i y) rfl (HOi.o.alloc _) wr.heap.size 1 y rfl (by simp) (by rw[qA,List.length_replicate,HM.o];have:=HT138.o;omega) (by have:=HSi.o;simp;omega) ?_;intro v' w' o' g' b';have HO4:=qH o';have HB4:=qH (((Below.refl B1 wr).alloc HSi.o _).trans b');clear o' g' b');go_roundw
                            case rel=>exact⟨i+1,by omega,by go_num,by rw[List.replicate_succ',<-qD];exact HO4.o,HBri.o.below HB4.o hoB,zbn HKi.o HB4.o hwB,qK HSi.o HB4.o.size,HIi.o.low HB4.o hgB hrB⟩
                            case measure=>(simp[intOf];try omega)
                          · obtain rfl:i=T:=by omega
                            go_wp2_with fail;go_roundw
                            case rel=>
                             have hnl:(all++List.replicate i y).length=m+i:=(by rw[qA,List.length_replicate,HM.o]);refine⟨all++List.replicate i y,x4,HOi.o,λu hu=> ?_,HBri.o,HKi.o,HSi.o,HIi.o,?_⟩
                             · rcases List.mem_append.1 hu with q|q
                               · exact H15.o u q
                               · rw[(List.mem_replicate.1 q).2];exact HVv.o
                             · have hl1:len1 o (a+257+(b+1)) all s D L x2=(if a+257+(b+1)<m+i then fl 162 else pur (.inl (all++List.replicate i y)):Rm (List Nat ⊕ List Nat)) s D L x4:=by
                                unfold len1;rw[if_neg (by rw[HM.o];omega),z00 HN.o,z00 HBb.o];simp only[HTm.o,HVl.o,HM.o];by_cases q:a+257+(b+1)<m+i
                                · rw[if_pos (.inr q),if_pos q]
                                · rw[if_neg (λh=>h.elim HNo.o q),if_neg q]
                               have hRr:=HRr.o;rw[loopR,z0i] at hRr;by_cases q:a+257+(b+1)<m+i
                               · rw[if_pos q] at hl1
                                 rw[z03 (show len1 o (a+257+(b+1)) all s D L x2=.error 162 from hl1)] at hRr;exact .inr ⟨by rw[hnl];exact q,by rw[hnl];have:=HT138.o;omega,hRr.symm⟩
                               · rw[if_neg q] at hl1
                                 rw[z00 (show len1 o (a+257+(b+1)) all s D L x2=.ok (.inl (all++List.replicate i y),x4) from hl1)] at hRr;exact .inl ⟨k2,by rw[hnl];omega,by have:=HX4.o;omega,hRr⟩
                            case measure=>rw[HIi.o.start.rms_0,HMs.o];have:=HX4.o;omega
                 · obtain rfl:m=a+257+(b+1):=by omega
                   obtain⟨k2,rfl⟩:∃j,k2=j+1:=⟨k2 - 1,by omega⟩
                   have hl1:len1 o (a+257+(b+1)) all s D L x2=.ok (.inr all,x2):=by
                    unfold len1;rw[if_pos (by rw[HM.o];exact qR)];rfl
                   rw[z00 (z0E hl1)] at hRr;unfold zbg at hRr;rcases zfj HO2.o with⟨h0,h1⟩|⟨bA,cA,hAe,hbA,hbA2,hcA,hcell⟩
                   · exfalso
                     have:=HM.o;rw[h1] at this;simp at this
                   injection hAe with hA1 hA2 hA3
                   subst hA1;subst hA3;rw[HM.o] at hcA hcell;have c256:=hcell 256 (by omega);generalize hz6:all.getD 256 0=z6 at c256 hRr;by_cases hz0:z6=0
                   · rw[if_pos hz0] at hRr
                     have hRe:R=.error 162:=hRr.symm;subst hRe;have e3:((z6:Int)==0)=true:=(by rw[beq_iff_eq];omega);have HF:=qH (z1b I2.o 162 162 rfl);clear hRr hz0 hcell hlt hz6;go_wp2_with (go_at_call 139;(with_reducible refine HF.o.mono ?_);rintro e w7 ⟨rfl,i7,k7⟩;have I7:=qH i7;have K7:=qH (kgg K2.o k7);clear i7 k7);go_ret2;exact⟨rfl,by decide,_,I7.o,K7.o⟩
                   · rw[if_neg hz0] at hRr
                     have hRe:R=.ok ((all,a+257,b+1),x2):=hRr.symm;subst hRe;have e3:((z6:Int)==0)=false:=(by rw[qN];omega);have HCl:=qH hcell;have hcA2:a+257<=c:=(by omega);clear hRr hz0 hcell hlt hz6;go_wp2_with fail
                     go_quiet (fail)
                     go_wp2_with fail;have hq:all.length - (a+257)=b+1:=(by rw[HM.o];omega);rw[hq];go_ret2
                     exact⟨some ⟨bA,0,none⟩,c,some ⟨bA,a+257,none⟩,c - (a+257),rfl,hcA2,(by show b+1<=c - (a+257);omega),
                      λ_=>⟨bA,0,rfl,hbA2,by omega,by omega,λi hi=>by rw[Nat.zero_add];exact HCl.o i (by simp only at hi;omega)⟩,
                      λ_=>⟨bA,a+257,rfl,hbA2,by omega,by omega,λi hi=>HCl.o (a+257+i) (by simp only at hi;omega)⟩,
                      λu hu=>by have:=H15.o u hu;omega,I2.o.same ((Kept.refl NoB wr).drewN _),K2.o.drewN _⟩
               · have HF:=qH (z1b I2.o 162 162 rfl)
                 subst hRe;have d4:decide ((m:Int)<(a:Int)+257+((b:Int)+1))=false:=qF (by omega);have d5:decide ((a:Int)+257+((b:Int)+1)<(m:Int))=true:=q9T (by omega);go_wp2_with (go_at_call 139;(with_reducible refine HF.o.mono ?_);rintro e w7 ⟨rfl,i7,k7⟩;have I7:=qH i7;have K7:=qH (kgg K2.o k7);clear i7 k7);go_ret2;exact⟨rfl,by decide,_,I7.o,K7.o⟩
        · obtain⟨cp8,c80,c81,c82,_⟩:=hI.cells
          have dn:((c:Int)==0)=false:=(by rw[qN];omega);have dp:((c:Int) !=0)=true:=(by rw[bne_iff_ne];omega);have HI9:=qH hI;have HKw9:=qH (HKw.o _ HKk.o);have Hc0:=qH hc0;subst hRc;clear hI c80 c81;by_cases hlt:j<k+4
          · have d2:decide ((j:Int)<(k:Int)+4)=true:=q9T (by omega)
            go_wp2_with fail
            go_loopw [10] (λv wx=>v=.slice none 0 0/\wx=wr) (λ_ _=>0)
            case atStart=>exact⟨rfl,rfl⟩
            case round=>
             obtain⟨rfl,rfl⟩:=hrel;go_wp2_with fail;go_ret2;exact⟨rfl,Hc0.o,_,HI9.o,HKw9.o⟩
          · have d2:decide ((j:Int)<(k:Int)+4)=false:=qF (by omega)
            go_wp2_with fail
            go_loopw [10] (λv wx=>v=.slice none 0 0/\wx=wr) (λ_ _=>0)
            case atStart=>exact⟨rfl,rfl⟩
            case round=>
             obtain⟨rfl,rfl⟩:=hrel;go_wp2_with fail;go_ret2;exact⟨rfl,Hc0.o,_,HI9.o,HKw9.o⟩
 · subst hR
   have dn:((e3:Int)==0)=false:=(by rw[qN];omega);have dp:((e3:Int) !=0)=true:=(by rw[bne_iff_ne];omega);have dk:decide ((0:Int)<(k:Int)+4)=true:=q9T (by omega)
   go_wp2_with (first
    |(go_at_call 150;(with_reducible refine(V.order_any _).mono ?_);rintro e w8 ⟨rfl,o8,b8⟩
      have b9:=(Below.refl w3.heap.size w3).alloc qR (.cells (madeCells #[.int .u8 0] 19) 5);have b10:Below w3.heap.size w3 w8:=b9.trans (b8.mono b9.size);have i8:=(I3.o).below b10;obtain⟨cp8,c80,c81,c82,_⟩:=i8.cells;have I8:=qH i8;have K8:=qH ((K3.o).trans (Kept.of_below b10) (λ_ e=>e.elim));clear o8 b8 b9 b10 i8 c80 c81))
   clear hmk
   go_loopw [9] (λi wx=>i=.int .i64 0/\wx=w8) (λ_ _=>0)
   case atStart=>exact⟨rfl,rfl⟩
   case round=>
    obtain⟨rfl,rfl⟩:=hrel;go_wp2_with fail
    go_loopw [10] (λv wx=>v=.slice none 0 0/\wx=wr) (λ_ _=>0)
    case atStart=>exact⟨rfl,rfl⟩
    case round=>
     obtain⟨rfl,rfl⟩:=hrel;go_wp2_with fail;go_ret2;exact⟨rfl,ne3,_,I8.o,K8.o⟩
