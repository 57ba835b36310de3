import Derived.Test.YthgilhebnlglkaaGreatDoorKIfT
import Derived.Test.YthgilhebnlglkaaGreatDoorKMBlN
set_option linter.all false
set_option maxHeartbeats 0
set_option maxRecDepth 1000000
open Go.Proofs.Tryz
namespace Go.Proofs.YthgilhebnlglkaaGreatDoor
namespace I
open Go Go.RowKit M
def TB(B:Nat)(w:World):Prop:=∀w',Below B w w'->V.Tabs w'
theorem TB.here{B:Nat}{w:World}(h:TB B w):V.Tabs w:=h w (Below.refl _ _)
theorem TB.go{B:Nat}{w w':World}(h:TB B w)(c:Below B w w'):TB B w':=λa b=>h a (c.trans b)
section
variable {w:World} {B g q r D L:Nat} {s:ByteArray} {x:St}
theorem In.bl(h:In w B g q r s D L x){w':World}(b:Kept (Ch g q r) w w'):Below B w w':=
 b.below (by have:=h.gb;have:=h.glt;omega) λj a=>by
  rcases a with e|e|e
  · rw[e];exact h.gb
  · rw[e];exact h.rd.base
  · rw[e];exact h.rb
theorem In.tbs(h:In w B g q r s D L x){w':World}(a:Below w.heap.size w w'):Below B w w':=a.mono (by have:=h.gb;have:=h.glt;omega)
def rQ(bz:Nat)(v:Nat->Nat):Rm Nat:=bnd (bits bz) λe=>if v e=0 then fl 163 else pur (v e)
theorem Ep(h:In w B g q r s D L x)(hs:s.size<=100000)(C:TB B w)(y a:Nat)(c:Bool)(v:Nat->Nat)(H:a<=13)(E:∀e,v e<=32768)
 (u:∀w',V.Tabs w'->Calls prog 217 #[.int .i64 y] w' λe i=>e=.returned (.tuple #[.int .i64 a,.bool c])/\Below w'.heap.size w' i)
 (F:∀e w',V.Tabs w'->Calls prog 218 #[.int .i64 y,.int .u32 (e:Nat)] w' λz i=>z=.returned (.tuple #[.int .i64 (v e:Nat),.bool (decide (0<v e))])/\Below w'.heap.size w' i):
 Calls prog 216 #[.pointer (some ⟨g,0,none⟩),.int .i64 y,.func (.func 217) #[] #[],.func (.func 218) #[] #[]] w (Out w B g q r s D L (rQ a v s D L x) ax):=by
 have j:=qH h;have R:=qH (λ(w':World) (u:Below B w w')=>(show V.Tabs w' from C w' u));have J:=qH (u w C.here);have t:=qH (λ(w':World) (N:In w' B g q r s D L x)=>bZ N hs a (by omega));by_cases hf:x.1+a<=8*s.size
 · have e:bits a s D L x=.ok (M.nb s x.1 a,(x.1+a,x.2)):=by unfold bits;rw[A7 hf]
   rw[e] at t;have O:M.nb s x.1 a<=8191:=by
    have h1:=M.nb_lt s x.1 a;have h2:2^a<=2^13:=Ak (by decide) H;omega
   have p:rQ a v s D L x=if v (M.nb s x.1 a)=0 then .error 163 else .ok (v (M.nb s x.1 a),(x.1+a,x.2)):=by
    unfold rQ;rw[a8 e]
    split<;>rfl
   rw[p];generalize U:M.nb s x.1 a=z at t O ⊢;have I:=E z;have A:=qH (λw' N=>F z w' N);generalize Q:v z=k at A I ⊢;by_cases l:k=0
   · subst l
     rw[A7 rfl];have P:=qH (show ∀w',V.Tabs w'->Calls prog 218 #[.int .i64 y,.int .u32 (z:Nat)] w' λz i=>z=.returned (.tuple #[.int .i64 0,.bool false])/\Below w'.heap.size w' i from A.o);clear h C u F e p hf U Q A E;go_enter func216,ntmps216
     go_wp2_with (first
      |(go_at_call 217;(with_reducible refine J.o.mono ?_);rintro e S ⟨rfl,c⟩;have b:=qH c;clear c)
      |(go_at_call 166;(with_reducible refine(t.o _ (j.o.below b.o)).mono ?_);rintro e i ⟨m,d⟩;unfold ax at m;subst m;have n:=qH d;clear d)
      |(go_at_call 218;(with_reducible refine(P.o _ (R.o _ ((j.o.tbs b.o).trans ((j.o.below b.o).bl n.o.kept)))).mono ?_);rintro e w3 ⟨rfl,b3⟩;have G:=qH b3;clear b3)
      |(go_at_call 171;(with_reducible refine(ji _).mono ?_);rintro e w4 ⟨rfl,W⟩;have Y:=qH W;clear W))
     exact⟨rfl,rfl,((((Kept.of_below b.o).none _).trans n.o.kept (λ_ e=> .inl e)).trans (Kept.of_below G.o) (λ_ e=>e.elim)).trans Y.o (λ_ e=>e.elim)⟩
   · rw[A0 l]
     have T:decide (0<k)=true:=q9T (by omega);rw[T] at A;clear h C u F e p hf U Q T l E;go_enter func216,ntmps216
     go_wp2_with (first
      |(go_at_call 217;(with_reducible refine J.o.mono ?_);rintro e S ⟨rfl,c⟩;have b:=qH c;clear c)
      |(go_at_call 166;(with_reducible refine(t.o _ (j.o.below b.o)).mono ?_);rintro e i ⟨m,d⟩;unfold ax at m;subst m;have n:=qH d;clear d)
      |(go_at_call 218;(with_reducible refine(A.o _ (R.o _ ((j.o.tbs b.o).trans ((j.o.below b.o).bl n.o.kept)))).mono ?_);rintro e w3 ⟨rfl,b3⟩;have G:=qH b3;clear b3))
     go_ret;obtain⟨k2,Z,K,X⟩:=n.o;exact⟨rfl,(((Kept.of_below b.o).none _).trans k2 (λ_ e=> .inl e)).trans (Kept.of_below G.o) (λ_ e=>e.elim),Z,K.imp id (λe=>qK b.o.size e),X.below G.o⟩
 · have e:bits a s D L x=.error 6:=by unfold bits;rw[A0 hf]
   rw[e] at t;have p:rQ a v s D L x=.error 6:=ak e;rw[p];clear h C u F e p hf E;go_enter func216,ntmps216
   go_wp2_with (first
    |(go_at_call 217;(with_reducible refine J.o.mono ?_);rintro e S ⟨rfl,c⟩;have b:=qH c;clear c)
    |(go_at_call 166;(with_reducible refine(t.o _ (j.o.below b.o)).mono ?_);rintro e i ⟨m,d⟩;subst m;have n:=qH d;clear d))
   exact⟨rfl,rfl,((Kept.of_below b.o).none _).trans n.o (λ_ e=> .inl e)⟩
theorem ED(h:In w B g q r s D L x)(hs:s.size<=100000)(C:TB B w)(y a:Nat)(c:Bool)(v:Nat->Nat)(H:a<=13)(E:∀e,v e<=32768)
 (u:∀w',V.Tabs w'->Calls prog 220 #[.int .i64 y] w' λe i=>e=.returned (.tuple #[.int .i64 a,.bool c])/\Below w'.heap.size w' i)
 (F:∀e w',V.Tabs w'->Calls prog 221 #[.int .i64 y,.int .u32 (e:Nat)] w' λz i=>z=.returned (.tuple #[.int .i64 (v e:Nat),.bool (decide (0<v e))])/\Below w'.heap.size w' i):
 Calls prog 216 #[.pointer (some ⟨g,0,none⟩),.int .i64 y,.func (.func 220) #[] #[],.func (.func 221) #[] #[]] w (Out w B g q r s D L (rQ a v s D L x) ax):=by
 have j:=qH h;have R:=qH (λ(w':World) (u:Below B w w')=>(show V.Tabs w' from C w' u));have J:=qH (u w C.here);have t:=qH (λ(w':World) (N:In w' B g q r s D L x)=>bZ N hs a (by omega));by_cases hf:x.1+a<=8*s.size
 · have e:bits a s D L x=.ok (M.nb s x.1 a,(x.1+a,x.2)):=by unfold bits;rw[A7 hf]
   rw[e] at t;have O:M.nb s x.1 a<=8191:=by
    have h1:=M.nb_lt s x.1 a;have h2:2^a<=2^13:=Ak (by decide) H;omega
   have p:rQ a v s D L x=if v (M.nb s x.1 a)=0 then .error 163 else .ok (v (M.nb s x.1 a),(x.1+a,x.2)):=by
    unfold rQ;rw[a8 e]
    split<;>rfl
   rw[p];generalize U:M.nb s x.1 a=z at t O ⊢;have I:=E z;have A:=qH (λw' N=>F z w' N);generalize Q:v z=k at A I ⊢;by_cases l:k=0
   · subst l
     rw[A7 rfl];have P:=qH (show ∀w',V.Tabs w'->Calls prog 221 #[.int .i64 y,.int .u32 (z:Nat)] w' λz i=>z=.returned (.tuple #[.int .i64 0,.bool false])/\Below w'.heap.size w' i from A.o);clear h C u F e p hf U Q A E;go_enter func216,ntmps216
     go_wp2_with (first
      |(go_at_call 220;(with_reducible refine J.o.mono ?_);rintro e S ⟨rfl,c⟩;have b:=qH c;clear c)
      |(go_at_call 166;(with_reducible refine(t.o _ (j.o.below b.o)).mono ?_);rintro e i ⟨m,d⟩;unfold ax at m;subst m;have n:=qH d;clear d)
      |(go_at_call 221;(with_reducible refine(P.o _ (R.o _ ((j.o.tbs b.o).trans ((j.o.below b.o).bl n.o.kept)))).mono ?_);rintro e w3 ⟨rfl,b3⟩;have G:=qH b3;clear b3)
      |(go_at_call 171;(with_reducible refine(ji _).mono ?_);rintro e w4 ⟨rfl,W⟩;have Y:=qH W;clear W))
     exact⟨rfl,rfl,((((Kept.of_below b.o).none _).trans n.o.kept (λ_ e=> .inl e)).trans (Kept.of_below G.o) (λ_ e=>e.elim)).trans Y.o (λ_ e=>e.elim)⟩
   · rw[A0 l]
     have T:decide (0<k)=true:=q9T (by omega);rw[T] at A;clear h C u F e p hf U Q T l E;go_enter func216,ntmps216
     go_wp2_with (first
      |(go_at_call 220;(with_reducible refine J.o.mono ?_);rintro e S ⟨rfl,c⟩;have b:=qH c;clear c)
      |(go_at_call 166;(with_reducible refine(t.o _ (j.o.below b.o)).mono ?_);rintro e i ⟨m,d⟩;unfold ax at m;subst m;have n:=qH d;clear d)
      |(go_at_call 221;(with_reducible refine(A.o _ (R.o _ ((j.o.tbs b.o).trans ((j.o.below b.o).bl n.o.kept)))).mono ?_);rintro e w3 ⟨rfl,b3⟩;have G:=qH b3;clear b3))
     go_ret;obtain⟨k2,Z,K,X⟩:=n.o;exact⟨rfl,(((Kept.of_below b.o).none _).trans k2 (λ_ e=> .inl e)).trans (Kept.of_below G.o) (λ_ e=>e.elim),Z,K.imp id (λe=>qK b.o.size e),X.below G.o⟩
 · have e:bits a s D L x=.error 6:=by unfold bits;rw[A0 hf]
   rw[e] at t;have p:rQ a v s D L x=.error 6:=ak e;rw[p];clear h C u F e p hf E;go_enter func216,ntmps216
   go_wp2_with (first
    |(go_at_call 220;(with_reducible refine J.o.mono ?_);rintro e S ⟨rfl,c⟩;have b:=qH c;clear c)
    |(go_at_call 166;(with_reducible refine(t.o _ (j.o.below b.o)).mono ?_);rintro e i ⟨m,d⟩;subst m;have n:=qH d;clear d))
   exact⟨rfl,rfl,((Kept.of_below b.o).none _).trans n.o (λ_ e=> .inl e)⟩
theorem GK(y:Nat):lenR y=rQ (if y<=285 then lb (y - 257) else 0) (λe=>if y<=285 then lof (y - 257) e else 0):=by
 funext s D L x;unfold lenR rQ;by_cases h:y<=285
 · simp only[A7 h]
   congr 1;funext e;by_cases q:lof (y - 257) e=0
   · rw[A7 (.inr q),A7 q]
   · rw[A0 (by omega),A0 q]
 · simp only[A0 h]
   congr 1;funext e;rw[A7 (.inl (by omega)),A7 trivial]
theorem Hl(y:Nat):dstR y=rQ (if y<=29 then db y else 0) (λe=>if y<=29 then dof y e else 0):=by
 funext s D L x;unfold dstR rQ;by_cases h:y<=29
 · simp only[A7 h]
   congr 1;funext e;by_cases q:dof y e=0
   · rw[A7 (.inr q),A7 q]
   · rw[A0 (by omega),A0 q]
 · simp only[A0 h]
   congr 1;funext e;rw[A7 (.inl (by omega)),A7 trivial]
theorem Eo(i e:Nat):lof i e<=258:=by
 by_cases h:lof i e=0
 · omega
 · have:=(GD h).2.2.2.2.2;omega
theorem EC(i e:Nat):dof i e<=32768:=by
 by_cases h:dof i e=0
 · omega
 · have:=(Ho h).2.2.2.2.2;omega
theorem Ll(h:In w B g q r s D L x)(hs:s.size<=100000)(b:TB B w)(y:Nat)(d:257<=y):
 Calls prog 216 #[.pointer (some ⟨g,0,none⟩),.int .i64 y,.func (.func 217) #[] #[],.func (.func 218) #[] #[]] w (Out w B g q r s D L (lenR y s D L x) ax):=by
 rw[GK];by_cases c:y<=285
 · simp only[A7 c]
   refine Ep h hs b y _ true _ (by have:=GP (y - 257) (by omega);omega) (λe=>by have:=Eo (y - 257) e;omega) (λw' a=>Y.lbits_yes (y - 257) y w' a.2 (by omega) (by omega)) (λe w' a=>Y.lengthOf_yes (y - 257) e y w' a.2 (by omega) (by omega))
 · simp only[A0 c]
   exact Ep h hs b y 0 false (λ_=>0) (by omega) (λ_=>by omega) (λw' a=>Y.lbits_no y w' a.2 (by omega)) (λe w' a=>Y.lengthOf_no y e w' a.2 (by omega))
theorem Ls(h:In w B g q r s D L x)(hs:s.size<=100000)(c:TB B w)(y:Nat):
 Calls prog 216 #[.pointer (some ⟨g,0,none⟩),.int .i64 y,.func (.func 220) #[] #[],.func (.func 221) #[] #[]] w (Out w B g q r s D L (dstR y s D L x) ax):=by
 rw[Hl];by_cases b:y<=29
 · simp only[A7 b]
   refine ED h hs c y _ true _ (by have:=Hv y b;omega) (λe=>EC y e) (λw' a=>Y.dbits_yes y y w' a.2 b rfl) (λe w' a=>Y.distOf_yes y e y w' a.2 b rfl)
 · simp only[A0 b]
   exact ED h hs c y 0 false (λ_=>0) (by omega) (λ_=>by omega) (λw' a=>Y.dbits_no y w' a.2 (by omega)) (λe w' a=>Y.distOf_no y e w' a.2 (by omega))
end
def plc(q:Nat)(w:World):Nat:=match w.cell? ⟨q,2,none⟩ with
 |some (.int _ a)=>a.toNat
 |_=>0
theorem In.plc{w:World}{B g q r D L:Nat}{s:ByteArray}{x:St}(h:In w B g q r s D L x):I.plc q w=x.1:=by
 unfold I.plc;rw[h.rd.c2];rfl
theorem Tb.go{w w':World}{B g q r a D L p n:Nat}{s:ByteArray}{x:St}{l:Nat->Nat}(h:In w B g q r s D L x)(b:Tb w r p l n)(d:Kept (Ch g q r) w w')(c:a=r\/w.heap.size<=a):Tb w' a p l n:=
 (h.tb b d).row (by
  have:=b.lt;rcases c with e|e
  · rw[e];exact b.ne
  · omega)
structure SS(w0:World)(r0 B g q:Nat)(s:ByteArray)(D L b p1 p2:Nat)(l:Nat->Nat)(n:Nat)(d:Nat->Nat)(m:Nat)(x:St)(w:World):Prop where
 ex:∃r,In w B g q r s D L x/\(r=r0\/w0.heap.size<=r)/\Tb w r p1 l n/\Tb w r p2 d m
 kp:Kept (Ch g q r0) w0 w
 bx:w.heap[b]? =some (.cells #[.pointer (some ⟨p1,0,none⟩),.pointer (some ⟨p2,0,none⟩)] 177 (0,0))
 tb:TB B w
def OS{α:Type}(w0:World)(r0 B g q:Nat)(s:ByteArray)(D L b p1 p2:Nat)(l:Nat->Nat)(n:Nat)(d:Nat->Nat)(m:Nat)(res:Except Nat (α×St))(V:α->Ending->World->Prop)(e:Ending)(w':World):Prop:=
 match res with
 |.ok p=>V p.1 e w'/\SS w0 r0 B g q s D L b p1 p2 l n d m p.2 w'
 |.error c=>e=.panicked (flt c)/\Kept (Ch g q r0) w0 w'
section
variable {w0 w:World} {r0 B g q D L b p1 p2 n m:Nat} {s:ByteArray} {l d:Nat->Nat} {x:St}
theorem SS.cells(h:SS w0 r0 B g q s D L b p1 p2 l n d m x w):w.cell? ⟨b,0,none⟩=some (.pointer (some ⟨p1,0,none⟩))/\w.cell? ⟨b,1,none⟩=some (.pointer (some ⟨p2,0,none⟩)):=by
 constructor<;>simp[World.cell?,h.bx]
theorem nA{w:World}{j k:Nat}{c o:Array Value}{t i:TypeId}{f f':Nat×Nat}(h:w.heap[j]? =some (.cells c t f))(a:w.heap[k]? =some (.cells o i f'))(p:t≠i):j≠k:=by
 intro e;subst e;rw[h] at a;injection a with a
 injection a with _ a _
 exact p a
theorem SS.step(h:SS w0 r0 B g q s D L b p1 p2 l n d m x w){r:Nat}(a:In w B g q r s D L x)(j:r=r0\/w0.heap.size<=r)(u:Tb w r p1 l n)(C:Tb w r p2 d m){w':World}{y:St}(k:Res w B g q r s D L y w'):SS w0 r0 B g q s D L b p1 p2 l n d m y w':=by
 obtain⟨f,t,i,z⟩:=k;have hs:=h.kp.size;refine⟨⟨t,z,?_,Tb.go a u f i,Tb.go a C f i⟩,Kept.ch_trans h.kp f j,?_,h.tb.go (a.bl f)⟩
 · rcases i with e|e
   · rw[e];exact j
   · exact .inr (by omega)
 · have p:=(qW.1 h.bx).1
   refine(f.block b p (λe=> ?_)).trans h.bx;obtain⟨E,G,F,o,A,H⟩:=a.row;obtain⟨c,fz,v⟩:=A.typ;rcases e with e|e|e
   · exact nA h.bx o (by decide) e
   · have:=a.rd.c0
     rw[<-e,h.cells.1] at this;cases this
   · exact nA h.bx v (by decide) e
theorem SS.lift{α:Type}(h:SS w0 r0 B g q s D L b p1 p2 l n d m x w){r:Nat}(i:In w B g q r s D L x)(a:r=r0\/w0.heap.size<=r)(j:Tb w r p1 l n)(k:Tb w r p2 d m){f:Nat}{args:Array Value}{res:Except Nat (α×St)}{V:α->Ending->World->Prop}
 (c:Calls prog f args w (Out w B g q r s D L res V)):Calls prog f args w (OS w0 r0 B g q s D L b p1 p2 l n d m res V):=by
 refine c.mono λe w' o=> ?_
 cases res with
 |ok p=>exact⟨o.1,h.step i a j k o.2⟩
 |error c=>exact⟨o.1,Kept.ch_trans h.kp o.2 a⟩
theorem SS.next1(h:SS w0 r0 B g q s D L b p1 p2 l n d m x w)(hs:s.size<=100000):Calls prog 215 #[.pointer (some ⟨g,0,none⟩),.pointer (some ⟨p1,0,none⟩)] w (OS w0 r0 B g q s D L b p1 p2 l n d m (nxt l n s D L x) ax):=by
 obtain⟨r,i,c,a,e⟩:=h.ex;exact h.lift i c a e (tZ i hs a)
theorem SS.next2(h:SS w0 r0 B g q s D L b p1 p2 l n d m x w)(hs:s.size<=100000):Calls prog 215 #[.pointer (some ⟨g,0,none⟩),.pointer (some ⟨p2,0,none⟩)] w (OS w0 r0 B g q s D L b p1 p2 l n d m (nxt d m s D L x) ax):=by
 obtain⟨r,i,e,c,a⟩:=h.ex;exact h.lift i e c a (tZ i hs a)
theorem SS.len(h:SS w0 r0 B g q s D L b p1 p2 l n d m x w)(hs:s.size<=100000)(y:Nat)(e:257<=y):Calls prog 216 #[.pointer (some ⟨g,0,none⟩),.int .i64 y,.func (.func 217) #[] #[],.func (.func 218) #[] #[]] w (OS w0 r0 B g q s D L b p1 p2 l n d m (lenR y s D L x) ax):=by
 obtain⟨r,i,c,a,j⟩:=h.ex;exact h.lift i c a j (Ll i hs h.tb y e)
theorem SS.dst(h:SS w0 r0 B g q s D L b p1 p2 l n d m x w)(hs:s.size<=100000)(y:Nat):Calls prog 216 #[.pointer (some ⟨g,0,none⟩),.int .i64 y,.func (.func 220) #[] #[],.func (.func 221) #[] #[]] w (OS w0 r0 B g q s D L b p1 p2 l n d m (dstR y s D L x) ax):=by
 obtain⟨r,i,c,a,e⟩:=h.ex;exact h.lift i c a e (Ls i hs h.tb y)
theorem SS.match(h:SS w0 r0 B g q s D L b p1 p2 l n d m x w)(t k:Nat)(e:1<=t/\t<=32768)(c:k<=258)(u:L<=800000000)(p:D<=100000000):
 Calls prog 219 #[.pointer (some ⟨g,0,none⟩),.int .i64 k,.int .i64 t] w (OS w0 r0 B g q s D L b p1 p2 l n d m (copy t k s D L x) dm):=by
 obtain⟨r,i,j,a,o⟩:=h.ex;exact h.lift i j a o (Gw i t k e c (by omega) (by have:=i.ll;omega))
theorem SS.take_no(h:SS w0 r0 B g q s D L b p1 p2 l n d m x w)(a:L<x.2.length - D+1):Calls prog 212 #[.pointer (some ⟨g,0,none⟩),.int .i64 1] w λe w'=>e=.panicked (flt 5)/\Kept (Ch g q r0) w0 w':=by
 obtain⟨r,i,j,c,p⟩:=h.ex;exact(I.take_no i (k:=1) (by omega) a).mono λe w' o=>⟨o.1,h.kp.trans o.2 (λ_ e=>e.elim)⟩
theorem SS.take_yes(h:SS w0 r0 B g q s D L b p1 p2 l n d m x w)(u:UInt8)(S:L<=800000000)(W:D<=100000000)(E:¬L<x.2.length - D+1):∃ (r C N:Nat) (o:World),Calls prog 212 #[.pointer (some ⟨g,0,none⟩),.int .i64 1] w (λe w'=>e=.returned (.tuple #[])/\w'=o)/\
 N<=900000000/\x.2.length=N/\Ry o r C x.2/\o.cell? ⟨g,1,none⟩=some (.slice (some ⟨r,0,none⟩) N C)/\o.frozen? ⟨g,1,none⟩=false/\g<o.heap.size/\g≠r/\
 ∀ (v t:World) (g' c:Nat),Kept NoB o v->Ry t g' c (x.2++[u])->v.grownBy t (some r)->(g'=r\/v.heap.size<=g')->SS w0 r0 B g q s D L b p1 p2 l n d m (x.1,x.2++[u]) (t.setCell ⟨g,1,none⟩ (.slice (some ⟨g',0,none⟩) (N+1) c)):=by
 obtain⟨r,i,Q,M,F⟩:=h.ex;have H:=I.take_yes i (k:=1) (by omega) E;obtain⟨y,z⟩:=i.ir;obtain⟨a,p⟩:=z.setZ ((L:Int) - ((x.2.length - D+1:Nat):Int));have P:=i.dl;have A:=a.cells;refine⟨r,y,x.2.length,_,H,by omega,rfl,a.ry,A.2.1,A.2.2 1,a.glt,a.gr,λv t g' c K O R G=> ?_⟩;obtain⟨U,V,T⟩:=a.app K O R G (n:=x.2.length+1) (by simp);have J:Kept (Ch g q r) w (t.setCell ⟨g,1,none⟩ (.slice (some ⟨g',0,none⟩) (x.2.length+1) c)):=Kept.ch_trans (p.mono λj e=> .inl e) V (.inl rfl);have hs:=p.size;refine h.step i Q M F ⟨J,g',T.imp id (λe=>by omega),U.in_ (by simp only[qA,Bn];omega) (by simp only[qA];omega) (by simp only[qA,Bn];omega)⟩
end
section
variable {w:World} {B g q r D L p1 p2 n m:Nat} {s:ByteArray} {l d:Nat->Nat} {x:St}
theorem SS.new(h:In w B g q r s D L x)(f:TB B w)(c:Tb w r p1 l n)(i:Tb w r p2 d m):SS w r B g q s D L w.heap.size p1 p2 l n d m x (w.alloc (.cells #[.pointer (some ⟨p1,0,none⟩),.pointer (some ⟨p2,0,none⟩)] 177)):=by
 have a:Kept NoB w (w.alloc (.cells #[.pointer (some ⟨p1,0,none⟩),.pointer (some ⟨p2,0,none⟩)] 177)):=(Kept.refl _ _).alloc _;refine⟨⟨r,h.same a,.inl rfl,c.kept h.byt a (λ_ e=>e.elim),i.kept h.byt a (λ_ e=>e.elim)⟩,a.none _,heap_alloc_new _ _,f.go (h.bl (a.none _))⟩
theorem GJ{y k:Nat}{z:St}(h:lenR y s D L x=.ok (k,z)):k<=258:=by
 unfold lenR at h;obtain⟨e,c,f,a⟩:=ay h
 split at a
 · cases a
 · cases a
   exact Eo _ _
theorem Hk{y k:Nat}{z:St}(h:dstR y s D L x=.ok (k,z)):1<=k/\k<=32768:=by
 unfold dstR at h;obtain⟨e,c,f,a⟩:=ay h
 split at a
 · cases a
 · rename_i q
   cases a
   have:=EC y e;omega
theorem Ld{z:St}{y:Nat}(h:nxt l n s D L x=.ok (y,z))(a:x.1<=8*s.size):y<320/\x.1<z.1/\z.1<=8*s.size:=by
 obtain⟨c,i,f,e,j,rfl⟩:=cq h a;have:=c.fit.1.1;exact⟨by omega,by simp only;omega,e⟩
theorem sK(h:In w B g q r s D L x)(hs:s.size<=100000)(Q:TB B w)(t1:Tb w r p1 l n)(t2:Tb w r p2 d m)(K:Nat)(hK:8*s.size - x.1<K)(hL:L<=800000000)(hD:D<=100000000):
 Calls prog 170 #[.pointer (some ⟨g,0,none⟩),.agg #[.pointer (some ⟨p1,0,none⟩),.pointer (some ⟨p2,0,none⟩)]] w (Out w B g q r s D L (syms K l n d m s D L x) dm):=by
 have a5:=SS.new h Q t1 t2;generalize G:syms K l n d m s D L x=R;unfold syms at G;generalize hb:w.heap.size=b at a5;obtain⟨HS,HR⟩:=qh2 a5 G;clear h Q t1 t2 a5 G;go_enter func170,ntmps170;go_wp2_with fail
 go_loopw [4] (λi wr=> ∃k S,SS w r B g q s D L b p1 p2 l n d m S wr/\8*s.size - S.1<k/\loopR (sym1 l n d m) k () s D L S=R) (λ_ wr=>8*s.size - plc q wr)
 case atStart=>exact⟨K,x,HS.o,hK,HR.o⟩
 case round=>
  obtain⟨k,S,hS,U,G⟩:=hrel;clear HS HR;obtain⟨k,rfl⟩:∃j,k=j+1:=⟨k - 1,by omega⟩
  have H:S.1<=8*s.size/\plc q wr=S.1:=(by obtain⟨r',i,_⟩:=hS.ex;exact⟨i.rd.le,i.plc⟩);obtain⟨c0,c1⟩:=hS.cells;have HS:=qH hS;have I:=qH (hS.next1 hs);clear hS;cases J:nxt l n s D L S with
  |error c=>
   obtain rfl:R=.error c:=by rw[<-G];exact bI (ak J)
   rw[J] at I;clear G J U H c1;go_wp2_with (go_at_call 215;(with_reducible refine I.o.mono ?_);rintro e W ⟨rfl,k1⟩;have K1:=qH k1;clear k1);exact⟨rfl,rfl,K1.o⟩
  |ok p=>
   obtain⟨y,x1⟩:=p;rw[J] at I;obtain⟨hy,am,ac⟩:=Ld J H.1;by_cases Z:y<256
   · have E:sym1 l n d m () s D L S=if L<x1.2.length - D+1 then .error 5 else .ok (.inl (),(x1.1,x1.2++[UInt8.ofNat y])):=by
      unfold sym1;rw[a8 J,A7 Z];have ha:app [UInt8.ofNat y] s D L x1=if L<x1.2.length - D+1 then .error 5 else .ok ((),(x1.1,x1.2++[UInt8.ofNat y])):=rfl;by_cases q:L<x1.2.length - D+1
      · rw[A7 q] at ha ⊢
        exact ak ha
      · rw[A0 q] at ha ⊢
        rw[a8 ha];rfl
     by_cases N:L<x1.2.length - D+1
     · rw[A7 N] at E
       obtain rfl:R=.error 5:=by rw[<-G];exact bI E
       clear G J U H c1 E
       go_wp2_with (first
        |(go_at_call 215;(with_reducible refine I.o.mono ?_);rintro e W ⟨A,u⟩;unfold ax at A;subst A;have C:=qH (u.take_no N);clear u)
        |(go_at_call 212;(with_reducible refine C.o.mono ?_);rintro e Y ⟨rfl,k2⟩;have K2:=qH k2;clear k2))
       exact⟨rfl,rfl,K2.o⟩
     · rw[A0 N] at E
       have P:=(cu (k:=k) E).symm.trans G;have HG:=qH P;have a0:8*s.size - x1.1<k:=(by omega);have hu:((UInt8.ofNat y).toNat:Int)=(y:Int):=(by rw[Bu];omega);clear G J E P c1 U
       go_wp2_with (first
        |(go_at_call 215;(with_reducible refine I.o.mono ?_);rintro e W ⟨A,u⟩;unfold ax at A;subst A;obtain⟨r9,ah,N9,w9,u1,u2,u3,u4,u5,u6,u7,u8,u9⟩:=u.take_yes (UInt8.ofNat y) hL hD N;obtain⟨C,HY,HX,af,ag⟩:=qh5 u1 u4 u9 u8 u3;clear u u1 u3 u4 u8 u9)
        |(go_at_call 212;(with_reducible refine C.o.mono ?_);rintro e Y ⟨rfl,rfl⟩)
        |(at_builtin;refine pS rfl (.tmp 31) (.tmp 34) rfl r9 N9 ah x1.2 rfl (HY.o.of_block (Below.heap_alloc _ _ _ HY.o.lt)) ag.o ⟨Y.heap.size,0,none⟩ 1 (UInt8.ofNat y) rfl (by rw[hu];simp) (by omega) ?_;intro g' ad w4 r2 a7 o4;have T:=qH (HX.o _ w4 g' ad ((Kept.refl NoB Y).alloc _) r2 a7 o4);have a6:=(a7.block g (by simp;omega) (by intro e;injection e with e;exact af.o e));have ao:=(World.frozen?_of_block (a:=⟨g,1,none⟩) a6).trans ((World.frozen?_of_block (a:=⟨g,1,none⟩) (Below.heap_alloc _ _ _ u7)).trans u6);have al:=(World.cell?_of_block (a:=⟨g,1,none⟩) a6).trans ((World.cell?_of_block (a:=⟨g,1,none⟩) (Below.heap_alloc _ _ _ u7)).trans u5);clear a6 r2 a7 o4))
       go_roundw
       case rel=>exact⟨k,_,T.o,a0,HG.o⟩
       case measure=>
        have hp:plc q (w4.setCell ⟨g,1,none⟩ (.slice (some ⟨g',0,none⟩) (N9+1) ad))=x1.1:=(by obtain⟨r',i,_⟩:=T.o.ex;exact i.plc);rw[hp,H.2];omega
   · by_cases aa:y=256
     · subst aa
       have E:sym1 l n d m () s D L S=.ok (.inr (),x1):=by
        unfold sym1;rw[a8 J,A0 (by decide),A7 rfl];rfl
       obtain rfl:R=.ok ((),x1):=by rw[<-G];exact aR E
       clear G J U H c1 E Z;have ae:=qH (show Calls prog 215 #[.pointer (some ⟨g,0,none⟩),.pointer (some ⟨p1,0,none⟩)] wr λe w'=>e=.returned (.int .i64 256)/\SS w r B g q s D L b p1 p2 l n d m x1 w' from I.o);clear I;go_wp2_with (go_at_call 215;(with_reducible refine ae.o.mono ?_);rintro e W ⟨rfl,u⟩;have Q2:=qH u;clear u);go_end0;obtain⟨r',i,ai,_⟩:=Q2.o.ex;exact⟨rfl,Q2.o.kp,r',ai,i⟩
     · have e0:((y:Int)==256)=false:=by rw[qN];omega
       have E:sym1 l n d m () s D L S=matR y d m s D L x1:=by
        unfold sym1;rw[a8 J,A0 Z,A0 aa]
       unfold matR at E;cases N:lenR y s D L x1 with
       |error c=>
        rw[ak N] at E;obtain rfl:R=.error c:=by rw[<-G];exact bI E
        clear G J U H c1 E;have O:257<=y:=by omega
        go_wp2_with (first
         |(go_at_call 215;(with_reducible refine I.o.mono ?_);rintro e W ⟨A,u⟩;unfold ax at A;subst A;have C:=u.len hs y O;rw[N] at C;have C:=qH C;clear u)
         |(go_at_call 216;(with_reducible refine C.o.mono ?_);rintro e Y ⟨rfl,k2⟩;have K2:=qH k2;clear k2))
        exact⟨rfl,rfl,K2.o⟩
       |ok p=>
        obtain⟨v,x2⟩:=p;have hv:=GJ N;rw[a8 N] at E;have O:257<=y:=(by omega);cases X:nxt d m s D L x2 with
        |error c=>
         rw[ak X] at E;obtain rfl:R=.error c:=by rw[<-G];exact bI E
         clear G J U H E
         go_wp2_with (first
          |(go_at_call 215;(with_reducible refine I.o.mono ?_);rintro e W ⟨A,u⟩;unfold ax at A;subst A;have C:=u.len hs y O;rw[N] at C;have C:=qH C;clear u I)
          |(go_at_call 216;(with_reducible refine C.o.mono ?_);rintro e Y ⟨A,u⟩;unfold ax at A;subst A;have F:=u.next2 hs;rw[X] at F;have F:=qH F;obtain⟨_,d1⟩:=u.cells;clear u C)
          |(go_at_call 215;(with_reducible refine F.o.mono ?_);rintro e w3 ⟨rfl,k3⟩;have K3:=qH k3;clear k3))
         exact⟨rfl,rfl,K3.o⟩
        |ok p=>
         obtain⟨z,x3⟩:=p;rw[a8 X] at E;cases Q:dstR z s D L x3 with
         |error c=>
          rw[ak Q] at E;obtain rfl:R=.error c:=by rw[<-G];exact bI E
          clear G J U H E;go_wp2_with (first
          |(go_at_call 215;(with_reducible refine I.o.mono ?_);rintro e W ⟨A,u⟩;unfold ax at A;subst A;have C:=u.len hs y O;rw[N] at C;have C:=qH C;clear u I)
          |(go_at_call 216;(with_reducible refine C.o.mono ?_);rintro e Y ⟨A,u⟩;unfold ax at A;subst A;have F:=u.next2 hs;rw[X] at F;have F:=qH F;obtain⟨_,d1⟩:=u.cells;clear u C)
          |(go_at_call 215;(with_reducible refine F.o.mono ?_);rintro e w3 ⟨A,u⟩;unfold ax at A;subst A;have M:=u.dst hs z;rw[Q] at M;have M:=qH M;clear u F)
          |(go_at_call 216;(with_reducible refine M.o.mono ?_);rintro e w4 ⟨rfl,k4⟩;have K4:=qH k4;clear k4))
          exact⟨rfl,rfl,K4.o⟩
         |ok p=>
          obtain⟨t,x4⟩:=p;have ab:=Hk Q;rw[a8 Q] at E;cases hc:copy t v s D L x4 with
          |error c=>
           rw[ak hc] at E;obtain rfl:R=.error c:=by rw[<-G];exact bI E
           clear G J U H E;go_wp2_with (first
          |(go_at_call 215;(with_reducible refine I.o.mono ?_);rintro e W ⟨A,u⟩;unfold ax at A;subst A;have C:=u.len hs y O;rw[N] at C;have C:=qH C;clear u I)
          |(go_at_call 216;(with_reducible refine C.o.mono ?_);rintro e Y ⟨A,u⟩;unfold ax at A;subst A;have F:=u.next2 hs;rw[X] at F;have F:=qH F;obtain⟨_,d1⟩:=u.cells;clear u C)
          |(go_at_call 215;(with_reducible refine F.o.mono ?_);rintro e w3 ⟨A,u⟩;unfold ax at A;subst A;have M:=u.dst hs z;rw[Q] at M;have M:=qH M;clear u F)
          |(go_at_call 216;(with_reducible refine M.o.mono ?_);rintro e w4 ⟨A,u⟩;unfold ax at A;subst A;have V:=u.match t v ab hv hL hD;rw[hc] at V;have V:=qH V;clear u M)
          |(go_at_call 219;(with_reducible refine V.o.mono ?_);rintro e w5 ⟨rfl,k5⟩;have K5:=qH k5;clear k5))
           exact⟨rfl,rfl,K5.o⟩
          |ok p=>
           obtain⟨u5,x5⟩:=p;rw[a8 hc] at E;have P:=(cu (k:=k) E).symm.trans G;have HG:=qH P;have an:S.1<x5.1:=by
            have a1:=((a9.lenR y).mono N).1;have a2:=((a9.nxt d m).mono X).1;have a3:=((a9.dstR z).mono Q).1;have a4:=((a9.copy t v).mono hc).1;omega
           have aj:=(a9.copy t v).inn hc ((a9.dstR z).inn Q ((a9.nxt d m).inn X ((a9.lenR y).inn N ac)));have a0:8*s.size - x5.1<k:=(by omega);clear G J E P U;go_wp2_with (first
          |(go_at_call 215;(with_reducible refine I.o.mono ?_);rintro e W ⟨A,u⟩;unfold ax at A;subst A;have C:=u.len hs y O;rw[N] at C;have C:=qH C;clear u I)
          |(go_at_call 216;(with_reducible refine C.o.mono ?_);rintro e Y ⟨A,u⟩;unfold ax at A;subst A;have F:=u.next2 hs;rw[X] at F;have F:=qH F;obtain⟨_,d1⟩:=u.cells;clear u C)
          |(go_at_call 215;(with_reducible refine F.o.mono ?_);rintro e w3 ⟨A,u⟩;unfold ax at A;subst A;have M:=u.dst hs z;rw[Q] at M;have M:=qH M;clear u F)
          |(go_at_call 216;(with_reducible refine M.o.mono ?_);rintro e w4 ⟨A,u⟩;unfold ax at A;subst A;have V:=u.match t v ab hv hL hD;rw[hc] at V;have V:=qH V;clear u M)
          |(go_at_call 219;(with_reducible refine V.o.mono ?_);rintro e w5 ⟨A,u⟩;unfold dm at A;subst A;have T:=qH u;clear u))
           go_roundw
           case rel=>exact⟨k,_,T.o,a0,HG.o⟩
           case measure=>
            have hp:plc q w5=x5.1:=(by obtain⟨r',i,_⟩:=T.o.ex;exact i.plc);rw[hp,H.2];omega
end
theorem xor16(n:Nat)(t:n<=65535):Go.bits .xor .u16 (n:Int) 65535=((65535 - n:Nat):Int)/\Go.bits .xor .u16 65535 (n:Int)=((65535 - n:Nat):Int):=by
 have h:∀a b:Nat,a<65536->b<65536->Go.bits .xor .u16 (a:Int) (b:Int)=((a^^^b:Nat):Int):=by
  intro a b f j;have p:a^^^b<2^16:=Dp (by simpa using f) (by simpa using j);have c:∀a:Nat,a<65536->(BitVec.ofInt 16 (a:Int)).toNat=a:=λa f=>by
   rw[BitVec.ofInt_natCast,BitVec.toNat_ofNat];exact Ar (by omega)
  show IntKind.u16.wrap ((BitVec.ofInt 16 (a:Int)^^^BitVec.ofInt 16 (b:Int)).toNat:Int)=_
  rw[BitVec.toNat_xor,c a f,c b j];have o:∀n:Int,IntKind.u16.wrap n=n%65536:=λn=>by simp[IntKind.wrap,IntKind.bits,IntKind.signed]
  rw[o];omega
 have e:n^^^65535=65535 - n:=by
  refine Nat.eq_of_testBit_eq λi=> ?_
  rw[Nat.testBit_xor,show 65535 - n=2^16 - (n+1) by omega,Nat.testBit_two_pow_sub_succ (by omega),show(65535:Nat)=2^16 - 1 from rfl,Nat.testBit_two_pow_sub_one];by_cases q:i<16
  · simp[q]
  · have:n.testBit i=false:=Nat.testBit_lt_two_pow (Ag (show n<2^16 by omega) (Ak (by decide) (by omega)))
    simp[q,this]
 have c:=h n 65535 (by omega) (by omega);have k:=h 65535 n (by omega) (by omega);rw[Nat.xor_comm,e] at k;rw[e] at c;exact⟨c,k⟩
theorem pR{f:Array Oper}{c:List Oper}{o:Oper}{a:Act}{w:World}{Q:Exit->Act->World->Prop}(j:o.guard=none)(s x:Operand)
 (v:o.op=.call {callee:=.builtin .append,args:= #[s,x],argTypes:= #[26,9]}) (g n k:Nat) (i:List UInt8) (hs:a.eval s=.slice (some ⟨g,0,none⟩) n k) (h:Ry w g k i) (z:i.length=n)
 (t:ByteArray) (p:a.eval x=.string t) (u:n+t.size<=10000000000) (M:Nat) (A:M=(i++t.data.toList).length)
 (y:∀g' e w',Ry w' g' e (i++t.data.toList)->w.grownBy w' (some g)->(g'=g\/w.heap.size<=g')->wpList prog f Q c (a.put o.dst (.slice (some ⟨g',0,none⟩) M e)) w'):wpList prog f Q (o::c) a w:=by
 subst A;exact pQ j s x v g n k i hs h z t p u y
section
variable {w0 w:World} {r0 B g q r D L:Nat} {s:ByteArray} {x:St}
theorem In.start(h:In w B g q r s D L x):Res w B g q r s D L x w:=⟨Kept.refl _ _,r,.inl rfl,h⟩
theorem Res.lift{α:Type}(h:Res w0 B g q r0 s D L x w){f:Nat}{args:Array Value}{res:Except Nat (α×St)}{V:α->Ending->World->Prop}
 (c:∀r,In w B g q r s D L x->Calls prog f args w (Out w B g q r s D L res V)):Calls prog f args w (Out w0 B g q r0 s D L res V):=by
 obtain⟨k,r,a,i⟩:=h;refine(c r i).mono λe w' o=> ?_
 cases res with
 |ok p=>exact⟨o.1,Res.trans (y:=x) k a o.2⟩
 |error c=>exact⟨o.1,Kept.ch_trans k o.2 a⟩
theorem Res.end_(h:Res w0 B g q r0 s D L x w){w':World}(a:Kept NoB w w'):Kept (Ch g q r0) w0 w':=h.kept.trans a (λ_ e=>e.elim)
theorem bu{n a:Nat}{y:St}(h:bits n s D L x=.ok (a,y))(k:Nat)(c:2^n<=k):a<k/\y=(x.1+n,x.2):=by
 unfold bits at h
 split at h
 · cases h
   exact⟨Ag (M.nb_lt _ _ _) c,rfl⟩
 · cases h
theorem vU(h:Res w0 B g q r0 s D L x w)(hs:s.size<=100000)(n:Nat):∃j,w.cell? ⟨g,0,none⟩=some (.pointer (some ⟨j,0,none⟩))/\
 Calls prog 211 #[.pointer (some ⟨j,0,none⟩),.int .i64 n] w λe w'=>
  (if(x.1+7) /8+n<=s.size then e=.returned (.tuple #[.string (s.extract ((x.1+7) /8) ((x.1+7) /8+n)),.int .i64 0])/\Res w0 B g q r0 s D L (8*((x.1+7) /8+n),x.2) w'
   else e=.returned (.tuple #[.string ⟨#[]⟩,.int .i64 6])/\Kept (Ch g q r0) w0 w'):=by
 obtain⟨k,r,c,i⟩:=h;obtain⟨t,v,u,c0,_⟩:=i.cells;refine⟨q,c0,?_⟩;by_cases hf:(x.1+7) /8+n<=s.size
 · refine(qk i.rd (by omega) n hf).mono λe w' o=> ?_
   rw[A7 hf];obtain⟨rfl,p,a⟩:=o;exact⟨rfl,Kept.ch_trans k (kq a) c,r,c,i.read a p⟩
 · refine(ql i.rd (by omega) (n:Int) (by omega) (by omega)).mono λe w' o=> ?_
   rw[A0 hf];obtain⟨rfl,p,a⟩:=o;exact⟨rfl,Kept.ch_trans k (kq a) c⟩
theorem Res.take_str(h:Res w0 B g q r0 s D L x w)(u:ByteArray)(S:L<=800000000)(X:D<=100000000)(Y:u.size<=100000)(E:¬L<x.2.length - D+u.size):∃ (r C N:Nat) (o:World),Calls prog 212 #[.pointer (some ⟨g,0,none⟩),.int .i64 u.size] w (λe w'=>e=.returned (.tuple #[])/\w'=o)/\
 N<=900000000/\x.2.length=N/\Ry o r C x.2/\o.cell? ⟨g,1,none⟩=some (.slice (some ⟨r,0,none⟩) N C)/\o.frozen? ⟨g,1,none⟩=false/\g<o.heap.size/\g≠r/\
 ∀ (t:World) (g' c M:Nat),M=(x.2++u.data.toList).length->Ry t g' c (x.2++u.data.toList)->o.grownBy t (some r)->(g'=r\/o.heap.size<=g')->Res w0 B g q r0 s D L (x.1,x.2++u.data.toList) (t.setCell ⟨g,1,none⟩ (.slice (some ⟨g',0,none⟩) M c)):=by
 obtain⟨k,r,Q,i⟩:=h;have H:=I.take_yes i (k:=u.size) (by omega) E;obtain⟨v,z⟩:=i.ir;obtain⟨a,p⟩:=z.setZ ((L:Int) - ((x.2.length - D+u.size:Nat):Int));have V:=i.ll;have P:=i.dl;have A:=a.cells;have F:u.data.toList.length=u.size:=As;refine⟨r,v,x.2.length,_,H,by omega,rfl,a.ry,A.2.1,A.2.2 1,a.glt,a.gr,λt g' c M K O R G=> ?_⟩;subst K;obtain⟨U,W,T⟩:=a.app (Kept.refl _ _) O R G rfl;have J:Kept (Ch g q r) w (t.setCell ⟨g,1,none⟩ (.slice (some ⟨g',0,none⟩) (x.2++u.data.toList).length c)):=Kept.ch_trans (p.mono λj e=> .inl e) W (.inl rfl);have hs:=p.size;exact Res.trans (y:=x) k Q ⟨J,g',T.imp id (λe=>by omega),U.in_ (by simp only[qA];omega) (by simp only[qA];omega) (by simp only[qA];omega)⟩
theorem Res.take_no(h:Res w0 B g q r0 s D L x w){k:Nat}(p:k<=100000)(a:L<x.2.length - D+k):Calls prog 212 #[.pointer (some ⟨g,0,none⟩),.int .i64 k] w λe w'=>e=.panicked (flt 5)/\Kept (Ch g q r0) w0 w':=by
 obtain⟨j,r,c,i⟩:=h;exact(I.take_no i (k:=k) (by omega) a).mono λe w' o=>⟨o.1,j.trans o.2 (λ_ e=>e.elim)⟩
theorem Ia(s:ByteArray)(p n:Nat):(s.extract p (p+n)).data.toList=byt s p n:=by
 simp[byt,CN]
theorem nL(h:In w B g q r s D L x)(hs:s.size<=100000)(hL:L<=800000000)(hD:D<=100000000):
 Calls prog 168 #[.pointer (some ⟨g,0,none⟩)] w (Out w B g q r s D L (stor s D L x) dm):=by
 obtain⟨cp,v3,v4,c0,c1,c2,c3,c4,cf,hy,hm⟩:=h.cells;have S:=qH ((fo h.rd (by omega)).mono λe w' (o:Got w B q s (.tuple #[]) (kL x.1) e w')=>(show e=.returned (.tuple #[])/\Res w B g q r s D L (8*((x.1+7) /8),x.2) w' from⟨o.1,kq o.2.2,r,.inl rfl,h.read o.2.2 o.2.1⟩));generalize u:stor s D L x=R;unfold stor at u;rw[a8 (show algn s D L x=.ok ((),(8*((x.1+7) /8),x.2)) from rfl)] at u;obtain⟨x0,a3⟩:∃x0:St,(8*((x.1+7) /8),x.2)=x0:=⟨_,rfl⟩
 rw[a3] at S u;clear h hy hm c1 c2 c3 c4 cf a3;cases N:bits 16 s D L x0 with
 |error c=>
  rw[ak N] at u;subst u
  have P:=qH (λ(W:World) (o:Res w B g q r s D L x0 W)=>(show Calls prog 166 #[.pointer (some ⟨g,0,none⟩),.int .i64 16] W λe w'=>e=.panicked (flt c)/\Kept (Ch g q r) w w' from by
   have:=o.lift (λr i=>bZ i hs 16 (by omega));rw[N] at this;exact this))
  clear N;go_enter func168,ntmps168
  go_wp2_with (first
   |(go_at_call 123;(with_reducible refine S.o.mono ?_);rintro e w1 ⟨rfl,v⟩;have y:=qH v;clear v)
   |(go_at_call 166;(with_reducible refine(P.o _ y.o).mono ?_);rintro e w2 ⟨rfl,k2⟩;have K2:=qH k2;clear k2))
  exact⟨rfl,rfl,K2.o⟩
 |ok p=>
  obtain⟨n,x1⟩:=p;rw[a8 N] at u;obtain⟨hn,ai⟩:=bu N 65536 (by decide)
  have P:=qH (λ(W:World) (o:Res w B g q r s D L x0 W)=>(show Calls prog 166 #[.pointer (some ⟨g,0,none⟩),.int .i64 16] W λe w'=>e=.returned (.int .i64 n)/\Res w B g q r s D L x1 w' from by
   have:=o.lift (λr i=>bZ i hs 16 (by omega));rw[N] at this;exact this))
  clear N;cases Q:bits 16 s D L x1 with
  |error c=>
   rw[ak Q] at u;subst u
   have Z:=qH (λ(W:World) (o:Res w B g q r s D L x1 W)=>(show Calls prog 166 #[.pointer (some ⟨g,0,none⟩),.int .i64 16] W λe w'=>e=.panicked (flt c)/\Kept (Ch g q r) w w' from by
    have:=o.lift (λr i=>bZ i hs 16 (by omega));rw[Q] at this;exact this))
   clear Q;go_enter func168,ntmps168
   go_wp2_with (first
    |(go_at_call 123;(with_reducible refine S.o.mono ?_);rintro e w1 ⟨rfl,v⟩;have y:=qH v;clear v)
    |(go_at_call 166;(with_reducible refine(P.o _ y.o).mono ?_);rintro e w2 ⟨rfl,z⟩;have C:=qH z;clear z y)
    |(go_at_call 166;(with_reducible refine(Z.o _ C.o).mono ?_);rintro e w3 ⟨rfl,k3⟩;have K3:=qH k3;clear k3))
   exact⟨rfl,rfl,K3.o⟩
  |ok p=>
   obtain⟨t,j⟩:=p;rw[a8 Q] at u;obtain⟨ht,aj⟩:=bu Q 65536 (by decide)
   have Z:=qH (λ(W:World) (o:Res w B g q r s D L x1 W)=>(show Calls prog 166 #[.pointer (some ⟨g,0,none⟩),.int .i64 16] W λe w'=>e=.returned (.int .i64 t)/\Res w B g q r s D L j w' from by
    have:=o.lift (λr i=>bZ i hs 16 (by omega));rw[Q] at this;exact this))
   clear Q;obtain⟨a6,ac⟩:=xor16 n (by omega);generalize a1:65535 - n=nn at a6 ac;have al:IntKind.u16.signed=false:=rfl;have ag:IntKind.u16.max=65535:=rfl;by_cases hq:n+t≠65535
   · rw[A7 hq] at u
     subst u;have d0:((t:Int) !=(nn:Int))=true:=(by rw[AQ];omega);clear hq a1;go_enter func168,ntmps168
     go_wp2_with (first
      |(go_at_call 123;(with_reducible refine S.o.mono ?_);rintro e w1 ⟨rfl,v⟩;have y:=qH v;clear v)
      |(go_at_call 166;(with_reducible refine(P.o _ y.o).mono ?_);rintro e w2 ⟨rfl,z⟩;have C:=qH z;clear z y)
      |(go_at_call 166;(with_reducible refine(Z.o _ C.o).mono ?_);rintro e w3 ⟨rfl,E⟩;have O3:=qH E;clear E C)
      |(go_at_call 171;(with_reducible refine(z8 _).mono ?_);rintro e w4 ⟨rfl,k4⟩;have K4:=qH k4;clear k4))
     exact⟨rfl,rfl,O3.o.end_ K4.o⟩
   · rw[A0 hq] at u
     have d0:((t:Int) !=(nn:Int))=false:=(by rw[Di];omega);clear hq a1;by_cases hf:(j.1+7) /8+n<=s.size
     · have eb:byts n s D L j=.ok (byt s ((j.1+7) /8) n,(8*((j.1+7) /8+n),j.2)):=by unfold byts;rw[A7 hf]
       rw[a8 eb] at u
       have V:=qH (λ(W:World) (o:Res w B g q r s D L j W)=>(show ∃I,W.cell? ⟨g,0,none⟩=some (.pointer (some ⟨I,0,none⟩))/\Calls prog 211 #[.pointer (some ⟨I,0,none⟩),.int .i64 n] W λe w'=>e=.returned (.tuple #[.string (s.extract ((j.1+7) /8) ((j.1+7) /8+n)),.int .i64 0])/\Res w B g q r s D L (8*((j.1+7) /8+n),j.2) w' from by
        have:=vU o hs n;simp only[A7 hf] at this;exact this))
       have a2:=rm hf;have G:(s.extract ((j.1+7) /8) ((j.1+7) /8+n)).size=n:=(by rw[Ae];omega);have A:=Ia s ((j.1+7) /8) n;generalize a9:s.extract ((j.1+7) /8) ((j.1+7) /8+n)=Y at V G A;rw[<-A] at u;have a5:app Y.data.toList s D L (8*((j.1+7) /8+n),j.2)=if L<j.2.length - D+n then .error 5 else .ok ((),(8*((j.1+7) /8+n),j.2++Y.data.toList)):=by
        show(if L<j.2.length - D+Y.data.toList.length then _ else _)=_
        rw[A,a2]
       obtain⟨x3,H⟩:∃x3:St,(8*((j.1+7) /8+n),j.2)=x3:=⟨_,rfl⟩
       have a0:j.2=x3.2:=(by rw[<-H]);have a4:8*((j.1+7) /8+n)=x3.1:=(by rw[<-H]);rw[a5,a0,a4] at u;rw[H] at V;clear a5 eb H a2 A a9 a0 a4;by_cases X:L<x3.2.length - D+n
       · rw[A7 X] at u
         subst u;have HT:=qH (λ(W:World) (o:Res w B g q r s D L x3 W)=>o.take_no (k:=n) (by omega) X);clear X hf;go_enter func168,ntmps168
         go_wp2_with (first
          |(go_at_call 123;(with_reducible refine S.o.mono ?_);rintro e w1 ⟨rfl,v⟩;have y:=qH v;clear v)
          |(go_at_call 166;(with_reducible refine(P.o _ y.o).mono ?_);rintro e w2 ⟨rfl,z⟩;have C:=qH z;clear z y)
          |(go_at_call 166;(with_reducible refine(Z.o _ C.o).mono ?_);rintro e w3 ⟨rfl,E⟩;obtain⟨I,d9,J⟩:=V.o _ E;have F:=qH J;clear E C J)
          |(go_at_call 211;(with_reducible refine F.o.mono ?_);rintro e w4 ⟨rfl,K⟩;have O4:=qH K;clear K)
          |(go_at_call 208;(with_reducible refine(eT _).mono ?_);rintro e w5 ⟨rfl,rfl⟩)
          |(go_at_call 212;(with_reducible refine(HT.o _ O4.o).mono ?_);rintro e w6 ⟨rfl,k6⟩;have K6:=qH k6;clear k6))
         exact⟨rfl,rfl,K6.o⟩
       · rw[A0 X] at u
         subst u;have HT:=qH (λ(W:World) (o:Res w B g q r s D L x3 W)=>o.take_str Y hL hD (by omega) (by rw[G];exact X));have O:(x3.2++Y.data.toList).length=x3.2.length+n:=(by rw[qA,<-G];exact congrArg _ As);generalize hM:x3.2.length+n=M at O;have HM:=qH O.symm;clear O hM;rw[G] at HT;clear X hf;go_enter func168,ntmps168
         go_wp2_with (first
          |(go_at_call 123;(with_reducible refine S.o.mono ?_);rintro e w1 ⟨rfl,v⟩;have y:=qH v;clear v)
          |(go_at_call 166;(with_reducible refine(P.o _ y.o).mono ?_);rintro e w2 ⟨rfl,z⟩;have C:=qH z;clear z y)
          |(go_at_call 166;(with_reducible refine(Z.o _ C.o).mono ?_);rintro e w3 ⟨rfl,E⟩;obtain⟨I,d9,J⟩:=V.o _ E;have F:=qH J;clear E C J)
          |(go_at_call 211;(with_reducible refine F.o.mono ?_);rintro e w4 ⟨rfl,K⟩;obtain⟨r9,ab,N9,w9,u1,u2,u3,u4,u5,u6,u7,u8,u9⟩:=HT.o _ K;obtain⟨ad,HY,HX,a7,aa⟩:=qh5 u1 u4 u9 u8 u3;clear K u1 u3 u4 u8 u9)
          |(go_at_call 208;(with_reducible refine(eT _).mono ?_);rintro e w5 ⟨rfl,rfl⟩)
          |(go_at_call 212;(with_reducible refine ad.o.mono ?_);rintro e w6 ⟨rfl,rfl⟩)
          |(at_builtin;refine pR rfl (.tmp 40) (.tmp 41) rfl r9 N9 ab x3.2 rfl HY.o aa.o Y rfl (by omega) M HM.o ?_;intro g' ae w7 r2 U K;have af:=qH (HX.o w7 g' ae M HM.o r2 U K);have T:=(U.block g u7 (by intro e;injection e with e;exact a7.o e));have am:=(World.frozen?_of_block (a:=⟨g,1,none⟩) T).trans u6;have ah:=(World.cell?_of_block (a:=⟨g,1,none⟩) T).trans u5;clear T r2 U K))
         go_end0;exact⟨rfl,af.o⟩
     · have eb:byts n s D L j=.error 6:=by unfold byts;rw[A0 hf]
       rw[ak eb] at u;subst u
       have V:=qH (λ(W:World) (o:Res w B g q r s D L j W)=>(show ∃I,W.cell? ⟨g,0,none⟩=some (.pointer (some ⟨I,0,none⟩))/\Calls prog 211 #[.pointer (some ⟨I,0,none⟩),.int .i64 n] W λe w'=>e=.returned (.tuple #[.string ⟨#[]⟩,.int .i64 6])/\Kept (Ch g q r) w w' from by
        have:=vU o hs n;simp only[A0 hf] at this;exact this))
       clear eb hf;go_enter func168,ntmps168
       go_wp2_with (first
        |(go_at_call 123;(with_reducible refine S.o.mono ?_);rintro e w1 ⟨rfl,v⟩;have y:=qH v;clear v)
        |(go_at_call 166;(with_reducible refine(P.o _ y.o).mono ?_);rintro e w2 ⟨rfl,z⟩;have C:=qH z;clear z y)
        |(go_at_call 166;(with_reducible refine(Z.o _ C.o).mono ?_);rintro e w3 ⟨rfl,E⟩;obtain⟨I,d9,J⟩:=V.o _ E;have F:=qH J;clear E C J)
        |(go_at_call 211;(with_reducible refine F.o.mono ?_);rintro e w4 ⟨rfl,k4⟩;have K4:=qH k4;clear k4)
        |(go_at_call 208;(with_reducible refine(mR _).mono ?_);rintro e w5 ⟨rfl,k5⟩;have K5:=qH k5;clear k5))
       exact⟨rfl,rfl,K4.o.trans K5.o (λ_ e=>e.elim)⟩
