import Derived.Test.YthgilhebnlglkaaGreatDoorKMRns
import Derived.Test.YthgilhebnlglkaaGreatDoorRows
import Derived.OpenShut
import Derived.LaidMore
import Derived.Deep.DeepHandedRow
import Derived.LoopNIn
set_option linter.all false
set_option maxHeartbeats 0
set_option maxRecDepth 1000000
open Go.Proofs.Tryz
namespace Go.Proofs.YthgilhebnlglkaaGreatDoor
namespace U
open Go Go.RowKit M
def sl(i:Nat):Nat:=if i<16 then 1 else if i<18 then 3 else 11
def sm(i:Nat):Nat:=if i<16 then 0 else if i<17 then 2 else if i<18 then 3 else 7
theorem IW(i:Nat):1<=sl i/\sl i<=11:=by
 unfold sl
 split
 · omega
 · split<;>omega
theorem FM(i:Nat):sm i<=7:=by
 unfold sm
 split
 · omega
 · split
   · omega
   · split<;>omega
structure Tab(w:World):Prop where
 at0:∀i,i<19->w.cell? ⟨4,i*2,none⟩=some (.int .i64 (sl i:Nat))
 at1:∀i,i<19->w.cell? ⟨4,i*2+1,none⟩=some (.int .i64 (sm i:Nat))
theorem Tab.lt{w:World}(h:Tab w): 4 <w.heap.size:=qB (h.at0 0 (by omega))
theorem Tab.below{w w':World}{n:Nat}(h:Tab w)(b:Below n w w')(a:w.heap.size<=n):Tab w':=
 ⟨λi hi=>(b.cell (p:=⟨4,i*2,none⟩) (Ag h.lt a)).trans (h.at0 i hi),λi hi=>(b.cell (p:=⟨4,i*2+1,none⟩) (Ag h.lt a)).trans (h.at1 i hi)⟩
theorem Lp: prog.globalNamed "platen/runs.says" =some 4 :=by kernel_rfl
theorem KU:(prog.globals[4]?).map (·.type)=some 369 :=by kernel_rfl
theorem l9: prog.cellsOf 368 =2:=by kernel_rfl
theorem cellsInt: prog.cellsOf 3 =1:=by kernel_rfl
theorem tT{H:Type}{enc:TypeId×Value->H}{w:World}{base:Nat}{c:Nat->Bool}{d:Bool}{m:Nat}{cs:List Value}{x:DataW H×List MemPlace}(h:DataW.trod enc prog w base c d m 368 cs=some x){a b:Int}(e:x.1=.agg [.lit (.int .i64 a),.lit (.int .i64 b)]):
 cs=[.int .i64 a,.int .i64 b]:=by
 obtain⟨q,k,_,rfl,l,g,hf⟩:=DataW.trod_array underlying368 h;rw[l9] at l
 match cs,l with
 |[v0,v1],_=>
  match q,g with
  |[y0,y1],_=>
   have f:=hf 0 (by omega);have i:=hf 1 (by omega);rw[cellsInt] at f i;simp only[BU,CW,BZ,Ck,AY,BX,List.getElem?_cons_zero,C0] at f i;obtain⟨r,n,o,_⟩:=DataW.trod_int underlying3 f;obtain⟨s,j,p,_⟩:=DataW.trod_int underlying3 i;simp only[List.cons.injEq,AU] at n j;simp only[Al,Av,DataW.agg.injEq,List.cons.injEq,AU] at e;subst o p;simp only[DataW.lit.injEq,Lit.int.injEq,true_and] at e;obtain⟨rfl,rfl⟩:=e;rw[n,j]
theorem tab_of_laid{W:World}{c:List (String×DataW Unit)}(y:c=[("platen/runs.says",Rows.laid_platen_runs_says)])(h:laidMet prog c W):Tab W:=by
 subst y;obtain⟨ps,⟨A,D,f,E,C,B,g,s,u,r,_,_⟩,_⟩:=h;obtain rfl:=Option.some.inj (Lp.symm.trans g);obtain rfl:=Option.some.inj (KU.symm.trans s);obtain⟨e,m,_,v,w,F,o⟩:=DataW.trod_array underlying369 r;simp only[Prod.mk.injEq] at v;have b:=v.1;have q:e.map (·.1)=(List.range 19).map (λi=>(DataW.agg [.lit (.int .i64 (sl i:Nat)),.lit (.int .i64 (sm i:Nat))]:DataW Unit)):=by
  unfold Rows.laid_platen_runs_says at b;injection b with b
  rw[<-b];rfl
 have a:=λj=>World.var?_cell g u j
 have l:∀i,i<19->(f.toList.drop (i*2)).take 2=[.int .i64 (sl i:Nat),.int .i64 (sm i:Nat)]:=λi hi=>by
  have p:=o i hi;rw[l9] at p;have x:e[i]? =some e[i]:=qE (by omega);rw[x] at p;refine tT p ?_
  have n:(e.map (·.1))[i]? =some (e[i]).1:=(by rw[Am,x];rfl);rw[q,Am,Bj hi] at n;injection n with n
  exact n.symm
 have d:∀i k,i<19->k<2->f[i*2+k]? =[Value.int .i64 (sl i:Nat),.int .i64 (sm i:Nat)][k]? :=λi k hi z=>by
  rw[<-l i hi,AD,A7 z,Bm,BM]
 exact⟨λi hi=>by have:=a (i*2);rw[show i*2=i*2+0 from rfl,d i 0 hi (by omega)] at this;exact this,λi hi=>by have:=a (i*2+1);rw[d i 1 hi (by omega)] at this;exact this⟩
theorem E5{s:Nat}(h:s<19):rbs s=((sm s:Nat):Int):=by
 by_cases a:s<16
 · unfold rbs sm;rw[A7 a,A7 a];rfl
 · have b:s=16\/s=17\/s=18:=by omega
   rcases b with rfl|rfl|rfl<;>rfl
theorem E6{s:Nat}(h:¬s<19):rbs s= -1:=by
 unfold rbs;rw[A0 (by omega),A0 (by omega),A0 (by omega),A0 (by omega)]
theorem Fw{s e:Nat}(h:s<19)(a:e<2^sm s):tms ⟨s,e⟩=sl s+e:=by
 by_cases b:s<16
 · have c:sm s=0:=by unfold sm;rw[A7 b]
   rw[c] at a;obtain rfl:e=0:=by omega
   rw[lI b];unfold sl;rw[A7 b]
 · have c:s=16\/s=17\/s=18:=by omega
   rcases c with rfl|rfl|rfl
   · rw[su (by simpa [sm] using a)];simp[sl]
   · rw[sr (by simpa [sm] using a)];simp[sl]
   · rw[sq (by simpa [sm] using a)];simp[sl]
theorem IN{s e:Nat}(h:s<19)(a:¬e<2^sm s):tms ⟨s,e⟩=0:=by
 unfold tms;simp only;by_cases c:s<16
 · have b:sm s=0:=by unfold sm;rw[A7 c]
   rw[b] at a;rw[A0 (by omega),A0 (by omega),A0 (by omega),A0 (by omega)]
 · have b:s=16\/s=17\/s=18:=by omega
   rcases b with rfl|rfl|rfl
   · have:¬e<4:=by simpa [sm] using a
     rw[A0 (by omega),A0 (by omega),A0 (by omega),A0 (by omega)]
   · have:¬e<8:=by simpa [sm] using a
     rw[A0 (by omega),A0 (by omega),A0 (by omega),A0 (by omega)]
   · have:¬e<128:=by simpa [sm] using a
     rw[A0 (by omega),A0 (by omega),A0 (by omega),A0 (by omega)]
theorem so{s e:Nat}(h:¬s<19):tms ⟨s,e⟩=0:=by
 unfold tms;simp only;rw[A0 (by omega),A0 (by omega),A0 (by omega),A0 (by omega)]
theorem fW{w w':World}{B:Nat}(h:Below B w w')(n:Nat):Below B w (w'.drewN n):=⟨h.os,h.tape,h.output,h.size,h.block⟩
theorem bits_any(s:Nat)(w:World)(H:Tab w)(hs:s<=255):Calls prog 279 #[.int .u8 s] w λx w'=>x=.returned (.tuple #[.int .i64 (max (rbs s) 0),.bool (decide (0<=rbs s))])/\w=w':=by
 by_cases h:s<19
 · have c1:=H.at1 s h
   have d:=FM s;have a:=E5 h;rw[a,show max ((sm s:Nat):Int) 0=((sm s:Nat):Int) by omega,show decide ((0:Int)<=((sm s:Nat):Int))=true from q9T (by omega)];generalize e:sm s=b at c1 ⊢;have c:decide ((19:Int)<=(s:Int))=false:=qF (by omega);clear d a e H;go_enter func279,ntmps279;go_wp2_with fail;exact bodyPost_ret (v:=.tuple #[.int .i64 b,.bool true]) (by simp[results,results279,go_sem]) rfl ⟨rfl,rfl⟩
 · rw[E6 h]
   have c:decide ((19:Int)<=(s:Int))=true:=q9T (by omega);clear h H;go_enter func279,ntmps279;go_wp2_with fail;exact bodyPost_ret (v:=.tuple #[.int .i64 0,.bool false]) (by simp[results,results279,go_sem]) rfl ⟨rfl,rfl⟩
theorem times_any(s e:Nat)(w:World)(H:Tab w)(hs:s<=255)(u:e<=255):Calls prog 256 #[.agg #[.int .u8 s,.int .u8 e]] w λx w'=>x=.returned (.tuple #[.int .i64 (tms ⟨s,e⟩:Nat),.bool (decide (0<tms ⟨s,e⟩))])/\Below w.heap.size w w':=by
 have a:=qH (λw' (b:Below w.heap.size w w')=>bits_any s w' (H.below b qR) hs);by_cases h:s<19
 · have j:=E5 h
   rw[j,show max ((sm s:Nat):Int) 0=((sm s:Nat):Int) by omega,show decide ((0:Int)<=((sm s:Nat):Int))=true from q9T (by omega)] at a;have k:=FM s;by_cases d:e<2^sm s
   · rw[Fw h d]
     have p:=IW s;rw[show decide (0<sl s+e)=true from q9T (by omega)];have c0:=(H.below ((Below.refl _ w).alloc qR (.cells #[.int .u8 s,.int .u8 e] 225)) qR).at0 s h;have c:e/2^sm s=0:=Cf d;obtain⟨b,i⟩:∃b,sm s=b:=⟨_,rfl⟩
     obtain⟨l,g⟩:∃l,sl s=l:=⟨_,rfl⟩
     rw[i] at k c a;rw[g] at c0 p ⊢;have n:(((e:Int) /2^b) !=0)=false:=by
      have:((e:Int) /2^b)=((e/2^b:Nat):Int):=(by simp);rw[this,c];rfl
     have r:IntKind.i64.wrap (e:Int)=(e:Int):=(by rw[IntKind.wrap_i64];omega);have q:IntKind.i64.wrap ((l:Int)+(e:Int))=((l+e:Nat):Int):=(by rw[IntKind.wrap_i64];omega);clear j i g H d c;go_enter func256,ntmps256;go_wp2_with (go_at_call 279;(with_reducible refine(a.o _ ((Below.refl _ w).alloc qR _)).mono ?_);rintro e m ⟨rfl,rfl⟩)
     go_quiet (fail)
     go_wp2_with fail;exact bodyPost_ret (v:=.tuple #[.int .i64 (l+e:Nat),.bool true]) (by simp[results,results256,go_sem]) rfl ⟨rfl,fW (qL) _⟩
   · rw[IN h d]
     have c:0<e/2^sm s:=Nat.div_pos (by omega) (Da (by simp));generalize i:sm s=b at k c a;have n:(((e:Int) /2^b) !=0)=true:=by
      have:((e:Int) /2^b)=((e/2^b:Nat):Int):=(by simp);rw[this];rw[AQ];omega
     clear j i H d c;go_enter func256,ntmps256;go_wp2_with (go_at_call 279;(with_reducible refine(a.o _ ((Below.refl _ w).alloc qR _)).mono ?_);rintro e m ⟨rfl,rfl⟩);exact bodyPost_ret (v:=.tuple #[.int .i64 0,.bool false]) (by simp[results,results256,go_sem]) rfl ⟨rfl,(qL)⟩
 · rw[E6 h] at a
   rw[so h];clear h H;go_enter func256,ntmps256;go_wp2_with (go_at_call 279;(with_reducible refine(a.o _ ((Below.refl _ w).alloc qR _)).mono ?_);rintro e m ⟨rfl,rfl⟩);exact bodyPost_ret (v:=.tuple #[.int .i64 0,.bool false]) (by simp[results,results256,go_sem]) rfl ⟨rfl,(qL)⟩
theorem yP(x:Nat)(w:World):Calls prog 306 #[.int .u8 x] w λe w'=>e=.returned (.bool (decide (15<x)))/\w=w':=by
 by_cases h:15<x
 · have a:decide ((15:Int)<(x:Int))=true:=q9T (by omega)
   rw[q9T h];clear h;go_enter func306,ntmps306;go_wp2_with fail;go_ret;exact⟨rfl,rfl⟩
 · have a:decide ((15:Int)<(x:Int))=false:=qF (by omega)
   rw[qF h];clear h;go_enter func306,ntmps306;go_wp2_with fail;go_ret;exact⟨rfl,rfl⟩
def wJ(W:World)(l:List Nat)(n:Nat)(e:Ending)(w':World):Prop:=∃i:Int,e=.returned (.int .i64 i)/\(0<=i↔∃j,j<n/\15<l.getD j 0)/\Below W.heap.size W w'
theorem uN(A:Option Addr)(n c:Nat)(l:List Nat)(w:World)(H:IsBys w A n l)(K:n<=2000):Calls prog 326 #[.slice A n c,.func (.func 306) #[] #[]] w (wJ w l n):=by
 obtain⟨C,g⟩:=qh2 H yP;clear H;unfold wJ;go_enter func326,ntmps326;go_wp2_with fail
 go_loopw [8] (λx wr=> ∃k:Nat,k<=n/\x=.int .i64 k/\(∀j,j<k->¬15<l.getD j 0)/\Below w.heap.size w wr) (λx _=>n - (intOf x).toNat)
 case atStart=>exact⟨0,qZ,rfl,λj z=>absurd z (by omega),Below.refl _ _⟩
 case round=>
  obtain⟨k,J,rfl,s,m⟩:=hrel;obtain⟨y,r⟩:=qh2 s m;by_cases a:k<n
  · obtain⟨I,B⟩:=qdT a;obtain⟨b,o,rfl,G,u⟩:=(C.o.below m).at (by omega);have c0:=u k a;obtain⟨x,p⟩:∃x,l.getD k 0=x:=⟨_,rfl⟩
    rw[p] at c0;have v:=qH p;clear s m u p;by_cases d:15<x
    · have i:decide (15<x)=true:=q9T d
      have h:=qH (λw=>g.o x w);rw[i] at h;have t:=qH d;clear i d;go_wp2_with (go_at_call 306;(with_reducible refine(h.o _).mono ?_);rintro e F ⟨rfl,rfl⟩);go_ret;exact⟨k,rfl,⟨λ_=>⟨k,a,by rw[v.o];exact t.o⟩,λ_=>by omega⟩,r.o⟩
    · have i:decide (15<x)=false:=qF d
      have h:=qH (λw=>g.o x w);rw[i] at h;have t:=qH d;clear i d;go_wp2_with (go_at_call 306;(with_reducible refine(h.o _).mono ?_);rintro e F ⟨rfl,rfl⟩);exact⟨⟨k+1,by omega,by go_num,λj z=>by
       by_cases q:j<k
       · exact y.o j q
       · obtain rfl:j=k:=by omega
         rw[v.o];exact t.o,r.o⟩,by simp[intOf];omega⟩
  · obtain rfl:k=n:=by omega
    clear s m;go_wp2_with fail;go_ret;exact⟨-1,rfl,⟨λq=>absurd q (by decide),λ⟨j,D,E⟩=>absurd E (y.o j D)⟩,r.o⟩
def Io(W:World)(b:Bool)(e:Ending)(w':World):Prop:=e=.returned (.bool b)/\Below W.heap.size W w'
theorem kT(A:Option Addr)(n c:Nat)(l:List Nat)(w:World)(b:Bool)(d:b=true↔∃j,j<n/\15<l.getD j 0)(H:IsBys w A n l)(m:n<=2000):Calls prog 305 #[.slice A n c,.func (.func 306) #[] #[]] w (Io w b):=by
 have a:=qH (uN A n c l w H m);unfold wJ at a;unfold Io;have k:=qH d;clear d H;go_enter func305,ntmps305;go_wp2_with (go_at_call 326;(with_reducible refine a.o.mono ?_);rintro e p ⟨i,rfl,hi,b3⟩;have g:decide ((0:Int)<=i)=b:=(by rw[Bool.eq_iff_iff,Dg,hi,k.o]);have h:=qH b3;clear hi b3);go_ret;exact⟨rfl,h.o⟩
theorem L7(v:Nat):∀ (l:List Nat) (k:Nat),(∀j,j<k->l.getD j 0=v)->k<=l.length->(k=l.length\/l.getD k 0≠v)->ru v l=k
 |[],k,h1,h2,h3=>by simp only[AB] at h2;unfold ru;omega
 |x::l,0,h1,h2,h3=>by
  rcases h3 with e|e
  · simp at e
  · unfold ru
    rw[A0]
    simpa using e
 |x::l,k+1,h1,h2,h3=>by
  have a:=h1 0 (by omega);simp at a;unfold ru;rw[A7 a,L7 v l k (λj b=>by simpa using h1 (j+1) (by omega)) (by simpa using h2) (by simpa using h3)]
theorem alike_any(A:Option Addr)(n c:Nat)(l:List Nat)(v:Nat)(w:World)(H:IsBys w A n (v::l))(J:n<=2000):Calls prog 307 #[.slice A n c] w λe w'=>e=.returned (.int .i64 (ru v l+1:Nat))/\Below w.heap.size w w':=by
 have d:l.length+1=n:=(by have:=H.leng;simpa using this);obtain⟨b,o,rfl,I,m⟩:=H.at (by omega);have c0:w.cell? ⟨b,o,none⟩=some (.int .u8 (v:Nat)):=(by have:=m 0 (by omega);simpa using this);obtain⟨E,a⟩:=qh2 m d;have F:1<=n:=(by omega);clear H m d;go_enter func307,ntmps307;go_wp2_with fail
 go_loopw [3] (λx wr=> ∃k q:Nat,k+1<=n/\x=.int .i64 (k+1:Nat)/\(∀j,j<k->l.getD j 0=v)/\wr=w.drewN q) (λx _=>n - (intOf x).toNat)
 case atStart=>exact⟨0,0,by omega,rfl,λj C=>absurd C (by omega),rfl⟩
 case round=>
  obtain⟨k,q,D,rfl,y,rfl⟩:=hrel;have p:=qH y;clear y;generalize t:k+1=z at D ⊢;have g:=qH t;clear t;by_cases s:z<n
  · have c1:=E.o z s
    obtain⟨x,i⟩:∃x,(v::l).getD z 0=x:=⟨_,rfl⟩
    rw[i] at c1;have B:=qH (show l.getD k 0=x by rw[<-i,<-g.o];simp);clear i;by_cases h:x=v
    · have G:((x:Int)==(v:Int))=true:=by rw[AG];omega
      have u:=qH h;clear h;go_wp2_with fail
      go_quiet (fail)
      go_wp2_with fail;exact⟨⟨z,_,by omega,by go_num,λj C=>by
       have t:=g.o;by_cases c:j<k
       · exact p.o j c
       · obtain rfl:j=k:=by omega
         rw[B.o];exact u.o,rfl⟩,by simp[intOf];omega⟩
    · have G:((x:Int)==(v:Int))=false:=by rw[qN];omega
      have u:=qH h;clear h;go_wp2_with fail
      go_quiet (fail)
      go_wp2_with fail;have r:ru v l+1=z:=by
       rw[L7 v l k p.o (by have:=a.o;have:=g.o;omega) (.inr (by rw[B.o];exact u.o)),g.o]
      rw[r];go_ret;exact⟨rfl,fW (fW (Below.refl _ _) _) _⟩
  · go_wp2_with fail
    go_quiet (fail)
    go_wp2_with fail;have r:ru v l+1=z:=by
     rw[L7 v l k p.o (by have:=a.o;have:=g.o;omega) (.inl (by have:=a.o;have:=g.o;omega)),g.o]
    rw[r];go_ret;exact⟨rfl,fW (fW (Below.refl _ _) _) _⟩
def sof(v n:Nat)(ahead:Bool):Nat:=if v=0/\11<=n then 18 else if v=0/\3<=n then 17 else if v≠0/\ahead=true/\3<=n then 16 else v
theorem FK(v n:Nat)(a:Bool)(w:World)(H:Tab w)(p:v<=15)(r:n<=2000):Calls prog 328 #[.int .u8 v,.int .i64 n,.bool a] w λe w'=>e=.returned (.int .u8 (sof v n a:Nat))/\w=w':=by
 have m:w.cell? ⟨4,36,none⟩=some (.int .i64 11):=H.at0 18 (by omega);have j:w.cell? ⟨4,34,none⟩=some (.int .i64 3):=H.at0 17 (by omega);have o:w.cell? ⟨4,32,none⟩=some (.int .i64 3):=H.at0 16 (by omega);clear H;by_cases b:v=0
 · have l:((v:Int)==0)=true:=by rw[AG];omega
   have i:((v:Int) !=0)=false:=(by rw[Di];omega);by_cases c:11<=n
   · have k:decide ((11:Int)<=(n:Int))=true:=q9T (by omega)
     rw[show sof v n a=18 by unfold sof;rw[A7 ⟨b,c⟩]];clear b c;go_enter func328,ntmps328;go_wp2_with fail;go_ret;exact⟨rfl,rfl⟩
   · have k:decide ((11:Int)<=(n:Int))=false:=qF (by omega)
     by_cases d:3<=n
     · have h:decide ((3:Int)<=(n:Int))=true:=q9T (by omega)
       rw[show sof v n a=17 by unfold sof;rw[A0 (λq=>c q.2),A7 ⟨b,d⟩]];clear b c d;go_enter func328,ntmps328;go_wp2_with fail;go_ret;exact⟨rfl,rfl⟩
     · have h:decide ((3:Int)<=(n:Int))=false:=qF (by omega)
       rw[show sof v n a=v by unfold sof;rw[A0 (λq=>c q.2),A0 (λq=>d q.2),A0 (λq=>q.1 b)]];clear b c d;go_enter func328,ntmps328;go_wp2_with fail;go_ret;exact⟨rfl,rfl⟩
 · have l:((v:Int)==0)=false:=by rw[qN];omega
   have i:((v:Int) !=0)=true:=(by rw[AQ];omega);cases a with
   |false=>
    rw[show sof v n false=v by unfold sof;rw[A0 (λq=>b q.1),A0 (λq=>b q.1),A0 (λq=>by cases q.2.1)]];clear b;go_enter func328,ntmps328;go_wp2_with fail;go_ret;exact⟨rfl,rfl⟩
   |true=>
    by_cases d:3<=n
    · have h:decide ((3:Int)<=(n:Int))=true:=q9T (by omega)
      rw[show sof v n true=16 by unfold sof;rw[A0 (λq=>b q.1),A0 (λq=>b q.1),A7 ⟨b,rfl,d⟩]];clear b d;go_enter func328,ntmps328;go_wp2_with fail;go_ret;exact⟨rfl,rfl⟩
    · have h:decide ((3:Int)<=(n:Int))=false:=qF (by omega)
      rw[show sof v n true=v by unfold sof;rw[A0 (λq=>b q.1),A0 (λq=>b q.1),A0 (λq=>d q.2.2)]];clear b d;go_enter func328,ntmps328;go_wp2_with fail;go_ret;exact⟨rfl,rfl⟩
def smo(s:Nat):Nat:=sl s+2^sm s - 1
theorem yk(s:Nat)(w:World)(H:Tab w)(hs:s<19):Calls prog 329 #[.int .u8 s] w λe w'=>e=.returned (.int .i64 (smo s:Nat))/\∃q,w'=w.drewN q:=by
 have c0:=H.at0 s hs;have c1:=H.at1 s hs;have g:=IW s;have d:=FM s;unfold smo;clear H;obtain⟨b,c⟩:∃b,sm s=b:=⟨_,rfl⟩
 obtain⟨l,a⟩:∃l,sl s=l:=⟨_,rfl⟩
 rw[c] at c1 d ⊢;rw[a] at c0 g ⊢;have h:b=0\/b=2\/b=3\/b=7:=(by rw[<-c];unfold sm;split;omega;split;omega;split<;>omega);clear c a d;rcases h with rfl|rfl|rfl|rfl
 all_goals
  have i:IntKind.i64.wrap (s:Int)=(s:Int):=(by rw[IntKind.wrap_i64];omega);go_enter func329,ntmps329;go_wp2_with fail
  go_quiet (fail)
  go_wp2_with fail;go_ret;exact⟨by go_num,_,rfl⟩
theorem lengthOf_any(A:Option Addr)(n c:Nat)(l:List Nat)(s:Nat)(w:World)(H:IsBys w A n l)(hs:s<19)(k:s=16->0<n)(t:n<=1000000):Calls prog 289 #[.int .u8 s,.slice A n c] w λe w'=>e=.returned (.int .u8 (vlr l ⟨s,0⟩:Nat))/\w=w':=by
 by_cases a:s=16
 · subst a
   obtain⟨q,m⟩:∃q,n=q+1:=⟨n - 1,by have:=k rfl;omega⟩
   obtain⟨b,o,rfl,u,p⟩:=H.at (by omega);have c0:=p q (by omega);have h:vlr l ⟨16,0⟩=l.getD q 0:=by
    unfold vlr;rw[A7 rfl];rw[List.getLastD_eq_getLast?,List.getLast?_eq_getElem?,List.getD,H.leng,m,Bo]
   rw[h];generalize r:l.getD q 0=x at c0 ⊢;subst m;have j:(((q+1:Nat):Int) - 1)=(q:Int):=(by omega);clear h r p H k;go_enter func289,ntmps289;go_wp2_with fail;go_ret;exact⟨rfl,rfl⟩
 · have j:((s:Int)==16)=false:=by rw[qN];omega
   have g:(s==16)=false:=(by rw[qN];exact a);clear k H;by_cases d:s=17
   · subst d
     clear a j g;go_enter func289,ntmps289;go_wp2_with fail;go_ret;exact⟨rfl,rfl⟩
   · by_cases i:s=18
     · subst i
       clear a j g d;go_enter func289,ntmps289;go_wp2_with fail;go_ret;exact⟨rfl,rfl⟩
     · have h:vlr l ⟨s,0⟩=s:=by unfold vlr;simp only;rw[A0 a,A0 (by omega)]
       rw[h];have y:((s:Int)==17)=false:=(by rw[qN];omega);have v:((s:Int)==18)=false:=(by rw[qN];omega);clear a d i h;go_enter func289,ntmps289;go_wp2_with fail;go_ret;exact⟨rfl,rfl⟩
