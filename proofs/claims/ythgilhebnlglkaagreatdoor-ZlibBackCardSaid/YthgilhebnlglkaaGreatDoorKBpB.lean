import Derived.Test.YthgilhebnlglkaaGreatDoorKBpA
import Derived.Test.YthgilhebnlglkaaGreatDoorKMYsD
set_option linter.all false
set_option maxHeartbeats 0
set_option maxRecDepth 1000000
open Go.Proofs.Tryz
namespace Go.Proofs.YthgilhebnlglkaaGreatDoor
namespace V
open Go Go.RowKit M U
theorem alike_any(x N:Nat)(w:World)(h:1<=N)(j:N<=400):Calls prog 253 #[.int .u8 x,.int .i64 N] w (Rpt w x N):=by
 have b:=qH (show Calls prog 287 #[.slice (some ⟨w.heap.size,0,none⟩) 1 1,.int .i64 N] (w.alloc (.cells #[.int .u8 x] 5)) (Rpt (w.alloc (.cells #[.int .u8 x] 5)) x N) from
  qj w.heap.size x N _ h j (by simp))
 unfold Rpt at b ⊢;go_enter func253,ntmps253;go_wp2_with (go_at_call 287;(with_reducible refine b.o.mono ?_);rintro e l ⟨g,rfl,a,c,d⟩;obtain⟨i,k⟩:=qh2 c d;clear c d);go_ret;exact⟨g,rfl,by have:=a;simp at this;omega,i.o,((Below.refl w.heap.size w).alloc qR _).trans (k.o.mono (by simp))⟩
theorem C2.below{w w':World}{g:Nat}{a b:Value}(h:C2 w g a b)(c:Below w.heap.size w w'):C2 w' g a b:=World.rowIs.of_block h (c.block g (World.rowIs.lt h))
theorem bp{w w':World}{g n:Nat}{f:Nat->Nat}(h:Br w g n f)(a:Below w.heap.size w w'):Br w' g n f:=h.below a h.lt
theorem eI{w:World}{k:IntKind}{A:Option Addr}{n:Nat}{f:Nat->Int}(h:av w k A n f){g i:Nat}{v:Value}(l:∀b o,A=some ⟨b,o,none⟩->b≠g):av (w.setCell ⟨g,i,none⟩ v) k A n f:=λp=>by
 obtain⟨b,o,e,c,m⟩:=h p;have hs:(w.setCell ⟨g,i,none⟩ v).heap[b]? =w.heap[b]? :=Below.heap_setCell _ _ _ _ (l b o e);exact⟨b,o,e,by rw[World.size_setCell];exact c,λj d=>(World.cell?_of_block (a:=⟨b,o+j,none⟩) hs).trans (m j d)⟩
theorem IsBys.nums'{w:World}{A:Option Addr}{n:Nat}{l:List Nat}(h:U.IsBys w A n l):av w .u8 A n (λi=>((l.getD i 0:Nat):Int)):=λa=>h.at a
def dB:List Nat:=(List.range 144).map (λ_=>8)++((List.range 112).map (λ_=>9)++((List.range 24).map (λ_=>7)++((List.range 8).map (λ_=>8)++[])))
theorem mI:∀i,i<288->dB.getD i 0=fxl i:=by decide+kernel
theorem cy:dB.length=288:=by decide+kernel
theorem fixed_f(w:World):Calls prog 209 #[] w λe w'=> ∃D c1 y S,e=.returned (.agg #[.slice D 288 c1,.slice y 30 S])/\av w' .u8 D 288 (λi=>(fxl i:Int))/\av w' .u8 y 30 (λ_=>((5:Nat):Int))/\Below w.heap.size w w'/\(∀b o,D=some ⟨b,o,none⟩->w.heap.size<=b)/\(∀b o,y=some ⟨b,o,none⟩->w.heap.size<=b)/\S=30:=by
 have M:=qH (show ∀w,Calls prog 253 #[.int .u8 8,.int .i64 144] w (Rpt w 8 144) from λw=>alike_any 8 144 w (by omega) (by omega));have H2:=qH (show ∀w,Calls prog 253 #[.int .u8 9,.int .i64 112] w (Rpt w 9 112) from λw=>alike_any 9 112 w (by omega) (by omega));have Y:=qH (show ∀w,Calls prog 253 #[.int .u8 7,.int .i64 24] w (Rpt w 7 24) from λw=>alike_any 7 24 w (by omega) (by omega));have L:=qH (show ∀w,Calls prog 253 #[.int .u8 8,.int .i64 8] w (Rpt w 8 8) from λw=>alike_any 8 8 w (by omega) (by omega));have O:=qH (show ∀w,Calls prog 253 #[.int .u8 5,.int .i64 30] w (Rpt w 5 30) from λw=>alike_any 5 30 w (by omega) (by omega))
 have C:=qH (λ(d k j g z:Nat) (w:World) (l:w.heap[z]? =some (.cells #[.slice (some ⟨d,0,none⟩) 144 144,.slice (some ⟨k,0,none⟩) 112 112,.slice (some ⟨j,0,none⟩) 24 24,.slice (some ⟨g,0,none⟩) 8 8] 26 (0,0)))
  (u:Br w d 144 (λ_=>8)) (n:Br w k 112 (λ_=>9)) (s:Br w j 24 (λ_=>7)) (r:Br w g 8 (λ_=>8))=>
  show Calls prog 252 #[.slice (some ⟨z,0,none⟩) 4 4] w (Cct w dB) from
  ik z 4 [⟨some ⟨d,0,none⟩,144,144,(List.range 144).map (λ_=>8)⟩,⟨some ⟨k,0,none⟩,112,112,(List.range 112).map (λ_=>9)⟩,⟨some ⟨j,0,none⟩,24,24,(List.range 24).map (λ_=>7)⟩,⟨some ⟨g,0,none⟩,8,8,(List.range 8).map (λ_=>8)⟩] w rfl (by omega) (qW.1 l).1
   (λi hi=>by
    match i,hi with
    |0,_=>exact cell_of_row _ _ 0 _ _ (0,0) l
    |1,_=>exact cell_of_row _ _ 1 _ _ (0,0) l
    |2,_=>exact cell_of_row _ _ 2 _ _ (0,0) l
    |3,_=>exact cell_of_row _ _ 3 _ _ (0,0) l)
   (λi hi=>by
    match i,hi with
    |0,_=>exact⟨IsBys.of_br u (by omega) (λ_=>by omega),show 0<144 by omega⟩
    |1,_=>exact⟨IsBys.of_br n (by omega) (λ_=>by omega),show 0<112 by omega⟩
    |2,_=>exact⟨IsBys.of_br s (by omega) (λ_=>by omega),show 0<24 by omega⟩
    |3,_=>exact⟨IsBys.of_br r (by omega) (λ_=>by omega),show 0<8 by omega⟩) (by show 0<dB.length;rw[cy];omega) (by show dB.length<=2000;rw[cy];omega))
 unfold Rpt at M H2 Y L O;unfold Cct at C;rw[cy] at C;go_enter func209,ntmps209
 go_wp2_with (first
  |(go_at_call 253;(with_reducible refine(M.o _).mono ?_);rintro e w1 ⟨d,rfl,n1,u,B⟩;have R1:=qH u;have X:=qH ((C2.new w (.slice none 0 0) (.slice none 0 0)).below B);have K:=qH (((Below.refl w.heap.size w).alloc qR _).trans (B.mono (by simp)));clear u B)
  |(go_at_call 253;(with_reducible refine(H2.o _).mono ?_);rintro e w2 ⟨k,rfl,n2,n,V⟩;obtain⟨R2,m⟩:=qh2 n V;clear n V)
  |(go_at_call 253;(with_reducible refine(Y.o _).mono ?_);rintro e w3 ⟨j,rfl,n3,s,b3⟩;obtain⟨R3,h⟩:=qh2 s b3;clear s b3)
  |(go_at_call 253;(with_reducible refine(L.o _).mono ?_);rintro e x ⟨g,rfl,n4,r,W⟩;obtain⟨R4,a⟩:=qh2 r W;clear r W)
  |(go_at_call 252;(refine(C.o d k j g x.heap.size _ (heap_alloc_new _ _) ((bp (bp (bp R1.o m.o) h.o) a.o).alloc _) ((bp (bp R2.o h.o) a.o).alloc _) ((bp R3.o a.o).alloc _) (R4.o.alloc _)).mono ?_);rintro e w5 ⟨A,I,rfl,q5,Z,Q,U⟩;have R5:=qH Q;have H:=qH (((Below.refl x.heap.size x).alloc qR _).trans (U.mono (by simp)));clear Q U q5)
  |(go_at_call 253;(with_reducible refine(O.o _).mono ?_);rintro e w6 ⟨G,rfl,n6,J,E⟩;obtain⟨P,T⟩:=qh2 J E;have c:=((((X.o.below m.o).below h.o).below a.o).below H.o).below E;have C6:=qH c;have k0:=c.at0;have k1:=c.at1;have f0:=c.frozen 0;have f1:=c.frozen 1;clear J E c))
 refine bodyPost_ret (v:=.agg #[.slice A 288 I,.slice (some ⟨G,0,none⟩) 30 30]) (results_cell_row rfl _ _ w.heap.size _ _ _ _ rfl (C6.o.put _ _).row underlying149 rfl kW) rfl ?_
 have s2:=m.o.size;have s3:=h.o.size;have s4:=a.o.size;have s5:=H.o.size;have F:=X.o.row;have a0:=(qW.1 F).1;have N:∀b o,A=some ⟨b,o,none⟩->b≠w.heap.size:=λb o e q=>by have:=Z b o e;simp at this;omega
 have R:∀b o,(some ⟨G,0,none⟩:Option Addr)=some ⟨b,o,none⟩->b≠w.heap.size:=λb o e q=>by
  simp only[Option.some.injEq,Addr.mk.injEq,AU] at e;omega
 refine⟨A,I,_,30,rfl,?_,?_,?_,λb o q=>by have:=Z b o q;simp at this;omega,λb o e=>by
  simp only[Option.some.injEq,Addr.mk.injEq,AU] at e;omega,rfl⟩
 · exact eI (eI ((IsBys.nums' (R5.o.below T.o)).congr λi hi=>by rw[mI i hi]) N) N
 · exact eI (eI (λ_=>⟨G,0,rfl,P.o.lt,λi hi=>by rw[Aa];exact P.o.cell hi⟩) R) R
 · exact((((((K.o.trans (m.o.mono K.o.size)).trans (h.o.mono (by omega))).trans (a.o.mono (by omega))).trans (H.o.mono (by omega))).trans (T.o.mono (by omega))).setCell (p:=⟨w.heap.size,0,none⟩) qR _).setCell (p:=⟨w.heap.size,1,none⟩) qR _
theorem order_p(w:World):Calls prog 258 #[] w λe w'=>e=.returned (.slice (some ⟨w.heap.size,0,none⟩) 19 19)/\IsBys w' (some ⟨w.heap.size,0,none⟩) 19 ord/\Below w.heap.size w w':=by
 go_enter func258,ntmps258;go_wp2;go_ret;exact⟨rfl,tR _ _ (heap_alloc_new _ _),qL⟩
theorem lj:(prog.info? 216).map (λi=>i.size)=some 2:=by kernel_rfl
theorem ld:(prog.info? 335).map (λi=>i.size)=some 4:=by kernel_rfl
theorem iC(n s:Nat)(w:World)(hs:s<=255):Calls prog 246 #[.int .u32 n,.int .i64 s] w λe w'=>e=.returned (.agg #[.int .u32 n,.int .u8 s])/\Below w.heap.size w w':=by
 go_enter func246,ntmps246;go_wp2;exact bodyPost_ret (v:=.agg #[.int .u32 n,.int .u8 s]) (results_cell_row rfl _ _ w.heap.size _ _ _ _ rfl (heap_alloc_new _ _) underlying216 rfl lj) rfl ⟨rfl,qL⟩
def sgv(y:Sy):Value:=.agg #[.bool y.d,.int .i64 (y.n:Nat),.int .u32 (y.e:Nat),.int .u8 (y.b:Nat)]
def LQ(a b c d:Value)(i:Nat):Value:=if i=0 then a else if i=1 then b else if i=2 then c else d
def G4(w:World)(g:Nat)(a b c d:Value):Prop:=w.rowIs g 335 4 (LQ a b c d)
section
variable {w w':World} {g:Nat} {a b c d:Value}
theorem G4.of_row(h:w.heap[g]? =some (.cells #[a,b,c,d] 335 (0,0))):G4 w g a b c d:=⟨#[a,b,c,d],h,rfl,λi hi=>by
 match i,hi with
 |0,_=>rfl
 |1,_=>rfl
 |2,_=>rfl
 |3,_=>rfl⟩
theorem G4.below(h:G4 w g a b c d)(e:Below w.heap.size w w'):G4 w' g a b c d:=World.rowIs.of_block h (e.block g (World.rowIs.lt h))
theorem G4.at0(h:G4 w g a b c d):w.cell? ⟨g,0,none⟩=some a:=World.rowIs.cell h (i:=0) (by omega)
theorem G4.at1(h:G4 w g a b c d):w.cell? ⟨g,1,none⟩=some b:=World.rowIs.cell h (i:=1) (by omega)
theorem G4.at2(h:G4 w g a b c d):w.cell? ⟨g,2,none⟩=some c:=World.rowIs.cell h (i:=2) (by omega)
theorem G4.at3(h:G4 w g a b c d):w.cell? ⟨g,3,none⟩=some d:=World.rowIs.cell h (i:=3) (by omega)
theorem G4.frozen(h:G4 w g a b c d)(i:Nat):w.frozen? ⟨g,i,none⟩=false:=World.rowIs.frozen h i
theorem G4.put(h:G4 w g a b c d)(a' b' e d':Value):G4 ((((w.setCell ⟨g,0,none⟩ a').setCell ⟨g,1,none⟩ b').setCell ⟨g,2,none⟩ e).setCell ⟨g,3,none⟩ d') g a' b' e d':=
 World.rowIs.congr (World.rowIs.set (World.rowIs.set (World.rowIs.set (World.rowIs.set h 0 a') 1 b') 2 e) 3 d') (λj f=>by
  match j,f with
  |0,_=>rfl
  |1,_=>rfl
  |2,_=>rfl
  |3,_=>rfl)
theorem G4.row(h:G4 w g a b c d):w.heap[g]? =some (.cells #[a,b,c,d] 335 (0,0)):=by
 obtain⟨e,j,k,f⟩:=h;have:e= #[a,b,c,d]:=by
  apply Cl
  intro i
  match i with
  |0=>exact f 0 (by omega)
  |1=>exact f 1 (by omega)
  |2=>exact f 2 (by omega)
  |3=>exact f 3 (by omega)
  |i+4=>rw[AT (by omega),AT (by simp)]
 rw[j,this]
theorem G4.bel{B:Nat}{w0:World}(h:Below B w0 w)(e:B<=g)(a' b' i f:Value):Below B w0 ((((w.setCell ⟨g,0,none⟩ a').setCell ⟨g,1,none⟩ b').setCell ⟨g,2,none⟩ i).setCell ⟨g,3,none⟩ f):=
 (((h.setCell (p:=⟨g,0,none⟩) e _).setCell (p:=⟨g,1,none⟩) e _).setCell (p:=⟨g,2,none⟩) e _).setCell (p:=⟨g,3,none⟩) e _
end
theorem lengthOf_any(l d:Int)(n:Nat)(w:World)(H:Y.Tab w)(z:3<=n/\n<=258):Calls prog 283 #[.agg #[.int .u8 l,.int .i64 n,.int .i64 d]] w λe w'=>e=.returned (sgv ⟨false,257+lsy n,lex n,lb (lsy n)⟩)/\Below w.heap.size w w':=by
 have j:Below w.heap.size w ((w.alloc (.cells #[.int .u8 l,.int .i64 n,.int .i64 d] 139)).alloc (.cells #[.bool false,.int .i64 0,.int .u32 0,.int .u8 0] 335)):=(qL).alloc (by simp) _;have y:((w.alloc (.cells #[.int .u8 l,.int .i64 n,.int .i64 d] 139)).alloc (.cells #[.bool false,.int .i64 0,.int .u32 0,.int .u8 0] 335)).heap[w.heap.size+1]? =some (.cells #[.bool false,.int .i64 0,.int .u32 0,.int .u8 0] 335 (0,0)):=by
  have:=heap_alloc_new (w.alloc (.cells #[.int .u8 l,.int .i64 n,.int .i64 d] 139)) (.cells #[.bool false,.int .i64 0,.int .u32 0,.int .u8 0] 335);rw[World.size_alloc] at this;exact this
 have h:=Y.length_yes n _ (H.below j qR) z;have u:lb (lsy n)<=255:=qK (GP _ (fA z).1) (by omega);obtain⟨b,k⟩:∃b,lb (lsy n)=b:=⟨_,rfl⟩
 obtain⟨x,s⟩:∃x,lex n=x:=⟨_,rfl⟩
 obtain⟨a,r⟩:∃a,257+lsy n=a:=⟨_,rfl⟩
 rw[k,s,r] at h ⊢;rw[k] at u;obtain⟨D,B⟩:=qh2 h j;have G:=qH (G4.of_row y);have q:=qH (λw=>iC x b w u);clear h j H r s k y;unfold sgv;go_enter func283,ntmps283
 go_wp2_with (first
  |(go_at_call 310;(with_reducible refine D.o.mono ?_);rintro e J ⟨rfl,m⟩;have F:=qH (G.o.below m);have C:=qbt B m;clear m)
  |(go_at_call 246;(with_reducible refine(q.o _).mono ?_);rintro e N ⟨rfl,p⟩;have i:=F.o.below p;have E:=qbt C p;have P:=i.at0;have M:=i.at1;have K:=i.at2;have O:=i.at3;have R:=i.frozen 0;have I:=i.frozen 1;have L:=i.frozen 2;have Q:=i.frozen 3;have A:=qH i;clear p i))
 exact bodyPost_ret (v:=.agg #[.bool false,.int .i64 a,.int .u32 x,.int .u8 b]) (results_cell_row rfl _ _ (w.heap.size+1) _ _ _ _ rfl (A.o.put _ _ _ _).row underlying335 rfl ld) rfl ⟨rfl,G4.bel E.o (by omega) _ _ _ _⟩
theorem qX(l d:Int)(n:Nat)(w:World)(H:Y.Tab w)(z:1<=n/\n<=32768):Calls prog 284 #[.agg #[.int .u8 l,.int .i64 d,.int .i64 n]] w λe w'=>e=.returned (sgv ⟨true,dsy n,dex n,db (dsy n)⟩)/\Below w.heap.size w w':=by
 have j:Below w.heap.size w ((w.alloc (.cells #[.int .u8 l,.int .i64 d,.int .i64 n] 139)).alloc (.cells #[.bool false,.int .i64 0,.int .u32 0,.int .u8 0] 335)):=(qL).alloc (by simp) _;have y:((w.alloc (.cells #[.int .u8 l,.int .i64 d,.int .i64 n] 139)).alloc (.cells #[.bool false,.int .i64 0,.int .u32 0,.int .u8 0] 335)).heap[w.heap.size+1]? =some (.cells #[.bool false,.int .i64 0,.int .u32 0,.int .u8 0] 335 (0,0)):=by
  have:=heap_alloc_new (w.alloc (.cells #[.int .u8 l,.int .i64 d,.int .i64 n] 139)) (.cells #[.bool false,.int .i64 0,.int .u32 0,.int .u8 0] 335);rw[World.size_alloc] at this;exact this
 have h:=Y.dist_yes n _ (H.below j qR) z;have u:db (dsy n)<=255:=qK (Hv _ (dh z).1) (by omega);obtain⟨b,k⟩:∃b,db (dsy n)=b:=⟨_,rfl⟩
 obtain⟨x,s⟩:∃x,dex n=x:=⟨_,rfl⟩
 obtain⟨a,r⟩:∃a,dsy n=a:=⟨_,rfl⟩
 rw[k,s,r] at h ⊢;rw[k] at u;obtain⟨D,B⟩:=qh2 h j;have G:=qH (G4.of_row y);have q:=qH (λw=>iC x b w u);clear h j H r s k y;unfold sgv;go_enter func284,ntmps284
 go_wp2_with (first
  |(go_at_call 311;(with_reducible refine D.o.mono ?_);rintro e J ⟨rfl,m⟩;have F:=qH (G.o.below m);have C:=qbt B m;clear m)
  |(go_at_call 246;(with_reducible refine(q.o _).mono ?_);rintro e N ⟨rfl,p⟩;have i:=F.o.below p;have E:=qbt C p;have P:=i.at0;have M:=i.at1;have K:=i.at2;have O:=i.at3;have R:=i.frozen 0;have I:=i.frozen 1;have L:=i.frozen 2;have Q:=i.frozen 3;have A:=qH i;clear p i))
 exact bodyPost_ret (v:=.agg #[.bool true,.int .i64 a,.int .u32 x,.int .u8 b]) (results_cell_row rfl _ _ (w.heap.size+1) _ _ _ _ rfl (A.o.put _ _ _ _).row underlying335 rfl ld) rfl ⟨rfl,G4.bel E.o (by omega) _ _ _ _⟩
def fZ(L:List Tk):Bool:=L.all may
theorem iD{L:List Tk}(h:∀t∈L,may t=true):fZ L=true:=CP.2 h
theorem qw(A:Option Addr)(n c:Nat)(L:List Tk)(w:World)(h:IsTks w A n L)(S:n<=100000):
 Calls prog 238 #[.slice A n c] w λe w'=>e=.returned (.bool (fZ L))/\Below w.heap.size w w':=by
 have N:=qH h;have G:=h.leng;generalize H:fZ L=T;obtain⟨J,I⟩:=qh2 H G;clear h G H;go_enter func238,ntmps238;go_wp2_with fail
 go_loopw [7] (λx wr=> ∃i:Nat,i<=n/\x=.int .i64 i/\(L.take i).all may=true/\Below w.heap.size w wr) (λx _=>n - (intOf x).toNat)
 case atStart=>exact⟨0,qZ,rfl,rfl,Below.refl _ _⟩
 case round=>
  obtain⟨i,hi,rfl,m,p⟩:=hrel;by_cases k:i<n
  · obtain⟨b,o,rfl,P,u⟩:=(N.o.below p).at (by omega)
    obtain⟨c0,c1,K⟩:=u i k;obtain⟨t,s⟩:∃t,L.getD i default=t:=⟨_,rfl⟩
    rw[s] at c0 c1 K;have F:=qH (show L[i]? =some t by rw[<-s,List.getD,qE (by rw[I.o];exact k)];rfl);obtain⟨tl,E,B⟩:=t;simp only at c0 c1 K;have l:=gN tl E B;obtain⟨j,O⟩:=qh2 p m;have M:i<=100000:=(by omega);by_cases q:may ⟨tl,E,B⟩=true
    · rw[q] at l
      obtain⟨D,R⟩:=qh2 l q;clear l q p u s m;go_wp2_with (go_at_call 194;(with_reducible refine(D.o _).mono ?_);rintro e Q ⟨rfl,r⟩;have y:=qH ((j.o.alloc j.o.size _).trans (r.mono (by have:=j.o.size;simp;omega)));clear r);go_roundw
      case rel=>exact⟨i+1,k,by go_num,by rw[Bd,F.o,List.all_append,O.o];simp[R.o],y.o⟩
      case measure=>(simp[intOf];try omega)
    · have z:may ⟨tl,E,B⟩=false:=by simpa using q
      rw[z] at l;have D:=qH l;have C:T=false:=by
       rw[<-J.o];unfold fZ;rw[List.all_eq_false];exact⟨_,BP F.o,by rw[z];simp⟩
      subst C;clear l q z p u s m;go_wp2_with (go_at_call 194;(with_reducible refine(D.o _).mono ?_);rintro e Q ⟨rfl,r⟩;have y:=qH ((j.o.alloc j.o.size _).trans (r.mono (by have:=j.o.size;simp;omega)));clear r);exact bodyPost_ret (v:=.bool false) (by simp[results,results238,go_sem]) rfl ⟨rfl,y.o⟩
  · obtain rfl:i=n:=by omega
    have C:T=true:=by
     rw[<-J.o];unfold fZ;rw[Aj (by rw[I.o];exact qR)] at m;exact m
    subst C;have j:=qH p;clear m p;go_wp2_with fail;go_ret;exact⟨rfl,j.o⟩
def rfs(k:Nat)(L:List Tk):Nat:=if 2<k\/(k≠0/\fZ L=false) then 2 else 0
theorem cA(k:Nat)(A:Option Addr)(n c:Nat)(L:List Tk)(i:ByteArray)(p:Nat)(w:World)(h:IsTks w A n L)(E:n<=100000)(C:i.size<=1000000)(y:p<=100000000)(B:k<=255):
 Calls prog 199 #[.int .u8 k,.slice A n c,.string i,.int .i64 p] w λe w'=>e=.returned (.int .i64 (rfs k L))/\Below w.heap.size w w':=by
 have l:=qH (qw A n c L w h (by omega));obtain⟨T,q⟩:∃T,fZ L=T:=⟨_,rfl⟩
 unfold rfs;rw[q] at l ⊢;clear h q;have D:decide ((p:Int)<0)=false:=qF (by omega);have z:decide ((1048576:Int)<(i.size:Int))=false:=qF (by omega);by_cases r:2<k
 · have t:decide ((2:Int)<(k:Int))=true:=q9T (by omega)
   rw[A7 (.inl r)];go_enter func199,ntmps199;go_wp2_with fail;go_ret;exact⟨rfl,Below.refl _ _⟩
 · have t:decide ((2:Int)<(k:Int))=false:=qF (by omega)
   have u:decide (2<k)=false:=qF r;by_cases s:k=0
   · subst s
     rw[A0 (by omega)];go_enter func199,ntmps199;go_wp2_with fail;go_ret;exact⟨rfl,Below.refl _ _⟩
   · have v:((k:Int) !=0)=true:=by rw[AQ];omega
     cases T
     · rw[A7 (.inr ⟨s,rfl⟩)]
       go_enter func199,ntmps199;go_wp2_with (go_at_call 238;(with_reducible refine l.o.mono ?_);rintro e x ⟨rfl,j⟩;have m:=qH j;clear j);go_ret;exact⟨rfl,m.o⟩
     · rw[A0 (by simp;omega)]
       go_enter func199,ntmps199;go_wp2_with (go_at_call 238;(with_reducible refine l.o.mono ?_);rintro e x ⟨rfl,j⟩;have m:=qH j;clear j);go_ret;exact⟨rfl,m.o⟩
