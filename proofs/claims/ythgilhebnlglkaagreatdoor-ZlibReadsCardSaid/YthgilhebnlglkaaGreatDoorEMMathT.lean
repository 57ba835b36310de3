import Derived.Deep.AppendLies
import Derived.Deep.Draws
import Derived.Test.YthgilhebnlglkaaGreatDoorProg
import Derived.WalkKit
import Derived.Lib.Hide
import Derived.Deep.OwnRows
import Derived.Deep.WholeRow
import Derived.Deep.MidRow
set_option linter.all false
set_option maxHeartbeats 8000000
set_option maxRecDepth 1000000
open Go.Proofs.Tryz
namespace Go.Proofs.YthgilhebnlglkaaGreatDoor
open Go Go.RowKit
def Hd(p:Prop):Prop:=p
theorem Hd.o{p:Prop}(h:Hd p):p:=h
theorem qH{p:Prop}(h:p):Hd p:=h
theorem qh2{A B:Prop}(a:A)(b:B):Hd A∧Hd B:=⟨a,b⟩
theorem qh3{A B C:Prop}(a:A)(b:B)(c:C):Hd A∧Hd B∧Hd C:=⟨a,b,c⟩
theorem qh4{A B C D:Prop}(a:A)(b:B)(c:C)(d:D):Hd A∧Hd B∧Hd C∧Hd D:=⟨a,b,c,d⟩
theorem qh5{A B C D E:Prop}(a:A)(b:B)(c:C)(d:D)(e:E):Hd A∧Hd B∧Hd C∧Hd D∧Hd E:=⟨a,b,c,d,e⟩
theorem qh6{A B C D E F:Prop}(a:A)(b:B)(c:C)(d:D)(e:E)(f:F):Hd A∧Hd B∧Hd C∧Hd D∧Hd E∧Hd F:=⟨a,b,c,d,e,f⟩
theorem qh7{A B C D E F G:Prop}(a:A)(b:B)(c:C)(d:D)(e:E)(f:F)(g:G):Hd A∧Hd B∧Hd C∧Hd D∧Hd E∧Hd F∧Hd G:=⟨a,b,c,d,e,f,g⟩
theorem qh8{A B C D E F G H:Prop}(a:A)(b:B)(c:C)(d:D)(e:E)(f:F)(g:G)(h:H):Hd A∧Hd B∧Hd C∧Hd D∧Hd E∧Hd F∧Hd G∧Hd H:=⟨a,b,c,d,e,f,g,h⟩
theorem qbt{w a b:World}(h:Hd (Below w.heap.size w a))(k:Below a.heap.size a b):Hd (Below w.heap.size w b):=h.o.trans (k.mono h.o.size)
theorem qcb{P:Program}{f:FuncId}{g:Array Value}{u w:World}{V:Value}{Q:Ending→World→Prop}(h:Hd (Below u.heap.size u w))(c:Calls P f g w fun e w'=>e=.returned V∧Below w.heap.size w w')(k:∀w',Hd (Below u.heap.size u w')→Q (.returned V) w'):Calls P f g w Q:=c.mono fun e w' x=>by rcases x with ⟨rfl,y⟩;exact k w' (qbt h y)
theorem qdT{a b:Nat}(h:a<b):decide ((a:Int)<(b:Int))=true∧decide (a<b)=true:=⟨decide_eq_true (by omega),decide_eq_true h⟩
theorem qR{a:Nat}:a<=a:=Nat.le_refl a
theorem qF{p:Prop}[h:Decidable p](q:¬p):decide p=false:=decide_eq_false q
theorem q9T{p:Prop}[h:Decidable p](q:p):decide p=true:=decide_eq_true q
theorem qA{α:Type _}{x y:List α}:(x++y).length=x.length+y.length:=List.length_append
theorem qB{w:World}{a:Addr}{v:Value}(h:w.cell? a=some v):a.block<w.heap.size:=World.block_lt_of_cell? _ _ h
theorem qE{α:Type _}{l:List α}{i:Nat}(h:i<l.length):l[i]? =some l[i]:=List.getElem?_eq_getElem h
theorem qN{α:Type _}[BEq α][LawfulBEq α]{a b:α}:(a==b)=false↔a≠b:=beq_eq_false_iff_ne
theorem qK{a b c:Nat}(h:a<=b)(k:b<=c):a<=c:=Nat.le_trans h k
theorem qZ{n:Nat}:0<=n:=Nat.zero_le n
theorem qD{α:Type _}(x y z:List α):x++y++z=x++(y++z):=List.append_assoc x y z
theorem qC{α:Type _}{a:α}{x:List α}:(a::x).length=x.length+1:=List.length_cons
theorem qW{α:Type _}{xs:Array α}{i:Nat}{b:α}:xs[i]? =some b↔∃h:i<xs.size,xs[i]=b:=Array.getElem?_eq_some_iff
theorem qL{w:World}{o:Obj}:Below w.heap.size w (w.alloc o):=(Below.refl _ _).alloc qR o
end Go.Proofs.YthgilhebnlglkaaGreatDoor
namespace Go.Proofs.YthgilhebnlglkaaGreatDoor.M
inductive Th
 |lf (w s:Nat)
 |pk (a b:Th)
namespace Th
def wt:Th->Nat
 |lf w _=>w
 |pk a b=>a.wt+b.wt
def sy:Th->Nat
 |lf _ s=>s
 |pk _ _=>0
def cn(x:Nat):Th->Nat
 |lf _ s=>if s=x then 1 else 0
 |pk a b=>cn x a+cn x b
end Th
def ct(x:Nat):List Th->Nat
 |[]=>0
 |t::l=>t.cn x+ct x l
def pks:List Th->List Th
 |a::b::r=> .pk a b::pks r
 |_=> []
def mrg(L P:List Th):List Th:=match L,P with
 |[],P=>P
 |l::L,[]=>l::L
 |l::L,p::P=>if p.wt<l.wt then p::mrg (l::L) P else l::mrg L (p::P)
termination_by L.length+P.length
def row(L:List Th):Nat->List Th
 |0=> []
 |k+1=>mrg L (pks (row L k))
def nl(L P:List Th)(q:Nat):Nat:=match q,L,P with
 |0,_,_=>0
 |_,[],_=>0
 |q+1,l::L,[]=>min (q+1) (L.length+1)
 |q+1,l::L,p::P=>if p.wt<l.wt then nl (l::L) P q else nl L (p::P) q+1
def Up(l:List Th):Prop:=l.Pairwise λa b=>a.wt<=b.wt
theorem z4B(P:List Th):mrg [] P=P:=by rw[mrg]
theorem z1i(L:List Th):mrg L []=L:=by cases L<;>rw[mrg]
theorem z1Q(l p:Th)(L P:List Th):mrg (l::L) (p::P)=if p.wt<l.wt then p::mrg (l::L) P else l::mrg L (p::P):=by rw[mrg]
theorem z0x:∀ (L P:List Th),(mrg L P).length=L.length+P.length
 |[],P=>by rw[z4B];simp
 |l::L,[]=>by rw[z1i];simp
 |l::L,p::P=>by
  rw[z1Q];split
  · rw[qC,z0x (l::L) P];simp only[qC];omega
  · rw[qC,z0x L (p::P)];simp only[qC];omega
termination_by L P=>L.length+P.length
theorem z4C(t:Th):∀ (L P:List Th),t∈mrg L P↔t∈L\/t∈P
 |[],P=>by rw[z4B];simp
 |l::L,[]=>by rw[z1i];simp
 |l::L,p::P=>by
  rw[z1Q];split
  · rw[List.mem_cons,z4C t (l::L) P,List.mem_cons (b:=p),or_left_comm]
  · rw[List.mem_cons,z4C t L (p::P),List.mem_cons (b:=l),or_assoc]
termination_by L P=>L.length+P.length
theorem z1h:∀ (R:List Th),(pks R).length=R.length/2
 |[]=>rfl
 |[a]=>by simp[pks]
 |a::b::r=>by simp only[pks,qC];rw[z1h r];omega
theorem zam(L:List Th):row L 1=L:=z1i L
theorem z8H(L:List Th)(k:Nat):(row L (k+1)).length=L.length+(row L k).length/2:=by
 show(mrg L (pks (row L k))).length=_
 rw[z0x,z1h]
theorem z1T(x:Nat):∀ (l r:List Th),ct x (l++r)=ct x l+ct x r
 |[],r=>by simp[ct]
 |t::l,r=>by simp only[List.cons_append,ct];rw[z1T x l r];omega
theorem zbY(x:Nat):∀ (R:List Th) (b:Nat),2*b<=R.length->ct x ((pks R).take b)=ct x (R.take (2*b))
 |_,0,_=>by simp[ct]
 |[],b+1,h=>by simp at h
 |[a],b+1,h=>by simp at h;omega
 |a::c::r,b+1,h=>by
  simp only[qC] at h;rw[show 2*(b+1)=2*b+1+1 by omega];simp only[pks,List.take_succ_cons,ct,Th.cn];rw[zbY x r b (by omega)];omega
theorem z6u(t:Th):∀ (R:List Th) (b:Nat),2*b<=R.length->t∈R.take (2*b)->∃u∈(pks R).take b,t.wt<=u.wt
 |_,0,_,h=>by simp at h
 |[],b+1,h,_=>by simp at h
 |[a],b+1,h,_=>by simp at h;omega
 |a::c::r,b+1,h,g=>by
  simp only[qC] at h;rw[show 2*(b+1)=2*b+1+1 by omega] at g;simp only[List.take_succ_cons,List.mem_cons] at g;simp only[pks,List.take_succ_cons];rcases g with rfl|rfl|g
  · exact⟨_,List.mem_cons_self,by simp only[Th.wt];omega⟩
  · exact⟨_,List.mem_cons_self,by simp only[Th.wt];omega⟩
  · obtain⟨u,hu,e⟩:=z6u t r b (by omega) g
    exact⟨u,List.mem_cons_of_mem _ hu,e⟩
theorem z35(L P:List Th):nl L P 0=0:=by unfold nl;rfl
theorem z36(P:List Th)(q:Nat):nl [] P q=0:=by cases q<;>simp[nl]
theorem z5B(L:List Th)(q:Nat):nl L [] q=min q L.length:=by
 cases q with
 |zero=>simp[nl]
 |succ q=>cases L<;>simp[nl]
theorem z26(l p:Th)(L P:List Th)(q:Nat):nl (l::L) (p::P) (q+1)=if p.wt<l.wt then nl (l::L) P q else nl L (p::P) q+1:=by rw[nl]
theorem z8V:∀ (L P:List Th) (q:Nat),nl L P q<=q
 |_,_,0=>by rw[z35];omega
 |[],P,q+1=>by rw[z36];omega
 |l::L,[],q+1=>by rw[z5B];omega
 |l::L,p::P,q+1=>by
  rw[z26];split
  · have:=z8V (l::L) P q;omega
  · have:=z8V L (p::P) q;omega
theorem zaT:∀ (L P:List Th) (q:Nat),nl L P q<=L.length
 |_,_,0=>by rw[z35];omega
 |[],P,q+1=>by rw[z36];omega
 |l::L,[],q+1=>by rw[z5B];omega
 |l::L,p::P,q+1=>by
  rw[z26];split
  · exact zaT (l::L) P q
  · have:=zaT L (p::P) q;simp only[qC];omega
theorem z6p:∀ (L P:List Th) (q:Nat),q<=L.length+P.length->q - nl L P q<=P.length
 |_,_,0,_=>by omega
 |[],P,q+1,h=>by rw[z36];simp at h;omega
 |l::L,[],q+1,h=>by rw[z5B];simp at h;simp;omega
 |l::L,p::P,q+1,h=>by
  simp only[qC] at h;rw[z26];split
  · have:=z6p (l::L) P q (by simp only[qC];omega);simp only[qC] at*;omega
  · have:=z6p L (p::P) q (by simp only[qC];omega);simp only[qC] at*;omega
theorem z4L(x:Nat):∀ (L P:List Th) (q:Nat),q<=L.length+P.length->ct x ((mrg L P).take q)=ct x (L.take (nl L P q))+ct x (P.take (q - nl L P q))
 |_,_,0,_=>by rw[z35];simp[ct]
 |[],P,q+1,_=>by rw[z36,z4B];simp[ct]
 |l::L,[],q+1,h=>by
  rw[z5B,z1i];simp only[qC,List.length_nil] at h;rw[Nat.min_eq_left (by simp only[qC];omega)];simp[ct]
 |l::L,p::P,q+1,h=>by
  simp only[qC] at h;rw[z26,z1Q];by_cases hc:p.wt<l.wt
  · rw[if_pos hc,if_pos hc]
    have h1:=z8V (l::L) P q;rw[show q+1 - nl (l::L) P q=(q - nl (l::L) P q)+1 by omega,List.take_succ_cons,List.take_succ_cons];simp only[ct];rw[z4L x (l::L) P q (by simp only[qC];omega)];omega
  · rw[if_neg hc,if_neg hc]
    have h1:=z8V L (p::P) q;rw[show q+1 - (nl L (p::P) q+1)=q - nl L (p::P) q by omega,List.take_succ_cons,List.take_succ_cons];simp only[ct];rw[z4L x L (p::P) q (by simp only[qC];omega)];omega
theorem z2y(t:Th):∀ (L P:List Th) (q:Nat),t∈L.take (nl L P q)->t∈(mrg L P).take q
 |_,_,0,h=>by rw[z35] at h;simp at h
 |[],P,q+1,h=>by rw[z36] at h;simp at h
 |l::L,[],q+1,h=>by
  rw[z5B] at h;rw[z1i];by_cases e:q+1<=(l::L).length
  · rwa [Nat.min_eq_left e] at h
  · rw[Nat.min_eq_right (by omega)] at h
    rw[List.take_of_length_le (by omega)]
    rwa [List.take_of_length_le qR] at h
 |l::L,p::P,q+1,h=>by
  rw[z26] at h;rw[z1Q];by_cases hc:p.wt<l.wt
  · rw[if_pos hc] at h;rw[if_pos hc,List.take_succ_cons]
    exact List.mem_cons_of_mem _ (z2y t (l::L) P q h)
  · rw[if_neg hc,List.take_succ_cons] at h;rw[if_neg hc,List.take_succ_cons]
    rcases List.mem_cons.1 h with rfl|h
    · exact List.mem_cons_self
    · exact List.mem_cons_of_mem _ (z2y t L (p::P) q h)
theorem z4x(u t:Th):∀ (L P:List Th) (q:Nat),Up L->L[nl L P q]? =some t->u∈P.take (q - nl L P q)->u.wt<t.wt
 |L,P,0,_,_,h=>by rw[z35] at h;simp at h
 |[],P,q+1,_,h,_=>by simp at h
 |l::L,[],q+1,_,_,h=>by simp at h
 |l::L,p::P,q+1,hup,h,g=>by
  rw[z26] at h g;by_cases hc:p.wt<l.wt
  · rw[if_pos hc] at h g
    have h1:=z8V (l::L) P q;rw[show q+1 - nl (l::L) P q=(q - nl (l::L) P q)+1 by omega,List.take_succ_cons] at g;rcases List.mem_cons.1 g with rfl|g
    · have:=List.mem_of_getElem? h
      rcases List.mem_cons.1 this with rfl|e
      · exact hc
      · have:=(List.pairwise_cons.1 hup).1 t e;omega
    · exact z4x u t (l::L) P q hup h g
  · rw[if_neg hc] at h g
    rw[show q+1 - (nl L (p::P) q+1)=q - nl L (p::P) q by omega] at g;rw[List.getElem?_cons_succ] at h;exact z4x u t L (p::P) q (List.pairwise_cons.1 hup).2 h g
def sm(f:Nat->Nat):Nat->Nat
 |0=>0
 |n+1=>sm f n+f n
theorem sm_congr{f g:Nat->Nat}:∀n,(∀i,i<n->f i=g i)->sm f n=sm g n
 |0,_=>rfl
 |n+1,h=>by simp only[sm];rw[sm_congr n (λi hi=>h i (by omega)),h n (by omega)]
theorem z5h(f g:Nat->Nat):∀n,sm (λi=>f i+g i) n=sm f n+sm g n
 |0=>rfl
 |n+1=>by simp only[sm];rw[z5h f g n];omega
theorem zf7(f:Nat->Nat)(c:Nat):∀n,sm (λi=>f i*c) n=sm f n*c
 |0=>by simp[sm]
 |n+1=>by simp only[sm];rw[zf7 f c n,Nat.add_mul]
theorem z2s(c:Nat):∀n,sm (λ_=>c) n=n*c
 |0=>by simp[sm]
 |n+1=>by simp only[sm];rw[z2s c n,Nat.succ_mul]
theorem z1B:∀n,sm (λ_=>0) n=0:=λn=>by rw[z2s];simp
theorem za7(f:Nat->Nat->Nat)(m:Nat):∀k,sm (λj=>sm (λi=>f i j) m) k=sm (λi=>sm (λj=>f i j) k) m
 |0=>by simp only[sm];rw[z1B]
 |k+1=>by simp only[sm];rw[za7 f m k,z5h]
theorem zf6(w:Nat->Nat)(a:Nat):∀m,a<=m->sm (λi=>if i<a then w i else 0) m=sm w a
 |0,h=>by obtain rfl:a=0:=by omega
          rfl
 |m+1,h=>by
  simp only[sm];by_cases e:a=m+1
  · subst e
    rw[if_pos (by omega)];simp only[sm];rw[sm_congr m (g:=w) (λi hi=>if_pos (by omega))]
  · rw[zf6 w a m (by omega),if_neg (by omega)];omega
def lvs(w g:Nat->Nat)(m:Nat):List Th:=(List.range m).map λi=>Th.lf (w i) (g i)
def zkv(w:Nat->Nat)(m:Nat):Prop:=∀i j,i<=j->j<m->w i<=w j
theorem z06(w g:Nat->Nat)(m:Nat):(lvs w g m).length=m:=by unfold lvs;simp
theorem z7L(w g:Nat->Nat)(m:Nat):lvs w g (m+1)=lvs w g m++[.lf (w m) (g m)]:=by unfold lvs;rw[List.range_succ];simp
theorem z7K(w g:Nat->Nat){a m:Nat}(h:a<=m):(lvs w g m).take a=lvs w g a:=by
 unfold lvs;rw[<-List.map_take,List.take_range,Nat.min_eq_left h]
theorem zfp{w g:Nat->Nat}{m:Nat}(h:zkv w m):Up (lvs w g m):=by
 unfold Up lvs;rw[List.pairwise_map];refine List.Pairwise.imp_of_mem ?_ (List.pairwise_lt_range (n:=m));intro a b ha hb hab;exact h a b (by omega) (List.mem_range.1 hb)
theorem zfq{w g:Nat->Nat}{m i:Nat}(inj:∀i j,i<m->j<m->g i=g j->i=j)(hi:i<m):∀a,a<=m->ct (g i) (lvs w g a)=if i<a then 1 else 0
 |0,_=>by simp[lvs,ct]
 |a+1,h=>by
  rw[z7L,z1T,zfq inj hi a (by omega)];simp only[ct,Th.cn];by_cases e:i=a
  · subst e;simp
  · have:g a≠g i:=λq=>e (inj a i (by omega) hi q).symm
    rw[if_neg this];by_cases e2:i<a
    · rw[if_pos e2,if_pos (by omega)]
    · rw[if_neg e2,if_neg (by omega)]
theorem zb6{w g:Nat->Nat}{x:Nat}:∀m,(∀i,i<m->g i≠x)->ct x (lvs w g m)=0
 |0,_=>by simp[lvs,ct]
 |m+1,h=>by
  rw[z7L,z1T,zb6 m (λi hi=>h i (by omega))];simp[ct,Th.cn,h m (by omega)]
section
variable {w g:Nat->Nat} {m:Nat}
def tl(L:List Th):Nat->Nat->Nat
 |0,_=>0
 |k+1,q=>nl L (pks (row L k)) q
def ln(L:List Th):Nat->Nat->Nat->Nat
 |0,_,_=>0
 |k+1,q,i=>(if i<tl L (k+1) q then 1 else 0)+ln L k (2*(q - tl L (k+1) q)) i
def wd(L:List Th):Nat->Nat->Nat->Nat
 |0,_,_=>0
 |k+1,q,i=>(if i<tl L (k+1) q then 2^k else 0)+wd L k (2*(q - tl L (k+1) q)) i
theorem z5b(L:List Th)(k q:Nat):tl L k q<=L.length:=by
 cases k with
 |zero=>simp[tl]
 |succ k=>exact zaT _ _ _
theorem zjR(L:List Th)(k q:Nat):tl L k q<=q:=by
 cases k with
 |zero=>simp[tl]
 |succ k=>exact z8V _ _ _
theorem z1x(L:List Th)(k q:Nat)(h:q<=(row L (k+1)).length):q - tl L (k+1) q<=(pks (row L k)).length/\2*(q - tl L (k+1) q)<=(row L k).length:=by
 have h1:q<=L.length+(pks (row L k)).length:=(by rw[<-z0x];exact h);have h2:=z6p L (pks (row L k)) q h1;have h3:q - tl L (k+1) q<=(pks (row L k)).length:=h2;refine⟨h3,?_⟩;rw[z1h] at h3;omega
theorem zfH(inj:∀i j,i<m->j<m->g i=g j->i=j){i:Nat}(hi:i<m):∀k q,q<=(row (lvs w g m) k).length->ct (g i) ((row (lvs w g m) k).take q)=ln (lvs w g m) k q i
 |0,q,h=>by simp[row,ct,ln]
 |k+1,q,h=>by
  obtain⟨h1,h2⟩:=z1x _ k q h;have h4:=z5b (lvs w g m) (k+1) q;rw[z06] at h4;show ct (g i) ((mrg _ (pks _)).take q)=_
  rw[z4L _ _ _ _ (by rw[<-z0x];exact h)];show ct (g i) ((lvs w g m).take (tl _ (k+1) q))+ct (g i) ((pks _).take (q - tl _ (k+1) q))=_
  rw[z7K _ _ h4,zfq inj hi _ h4,zbY _ _ _ h2,zfH inj hi k _ h2];rfl
theorem zbX{x:Nat}(hx:∀i,i<m->g i≠x):∀k q,q<=(row (lvs w g m) k).length->ct x ((row (lvs w g m) k).take q)=0
 |0,q,h=>by simp[row,ct]
 |k+1,q,h=>by
  obtain⟨h1,h2⟩:=z1x _ k q h;have h4:=z5b (lvs w g m) (k+1) q;rw[z06] at h4;show ct x ((mrg _ (pks _)).take q)=_
  rw[z4L _ _ _ _ (by rw[<-z0x];exact h)];show ct x ((lvs w g m).take (tl _ (k+1) q))+ct x ((pks _).take (q - tl _ (k+1) q))=_
  rw[z7K _ _ h4,zb6 _ (λi hi=>hx i (by omega)),zbY _ _ _ h2,zbX hx k _ h2]
theorem ziY(L:List Th)(i:Nat):∀k q,ln L k q i<=k
 |0,q=>qR
 |k+1,q=>by
  have:=ziY L i k (2*(q - tl L (k+1) q));simp only[ln];split<;>omega
theorem z9Q{L:List Th}(hL:Up L)(k q:Nat)(h:q<=(row L (k+1)).length):tl L k (2*(q - tl L (k+1) q))<=tl L (k+1) q:=by
 cases k with
 |zero=>simp[tl]
 |succ k=>
  apply Nat.le_of_not_lt
  intro hlt;obtain⟨h1,h2⟩:=z1x L (k+1) q h;obtain⟨a,ha⟩:∃a,tl L (k+1+1) q=a:=⟨_,rfl⟩
  rw[ha] at h1 h2 hlt;have h3:=z5b L (k+1) (2*(q - a));have hal:a<L.length:=(by omega);have hm:L[a]∈L.take (nl L (pks (row L k)) (2*(q - a))):=by
   rw[List.mem_take_iff_getElem];exact⟨a,by rw[Nat.lt_min];exact⟨hlt,hal⟩,rfl⟩
  have hm2:=z2y _ _ _ _ hm;obtain⟨u,hu,hw⟩:=z6u (L[a]) (row L (k+1)) (q - a) h2 hm2
  have:=z4x u (L[a]) L (pks (row L (k+1))) q hL (by
   show L[tl L (k+1+1) q]? =_
   rw[ha];exact qE hal) (by
   show u∈(pks (row L (k+1))).take (q - tl L (k+1+1) q)
   rw[ha];exact hu)
  omega
theorem zbb{L:List Th}(hL:Up L){i:Nat}:∀k q,q<=(row L k).length->tl L k q<=i->ln L k q i=0
 |0,_,_,_=>rfl
 |k+1,q,h,hi=>by
  obtain⟨h1,h2⟩:=z1x L k q h;have:=z9Q hL k q h;simp only[ln];rw[if_neg (by omega),zbb hL k _ h2 (by omega)]
theorem zi8{L:List Th}(hL:Up L)(i:Nat):∀k q,q<=(row L k).length->wd L k q i+2^(k - ln L k q i)=2^k
 |0,_,_=>by simp[wd]
 |k+1,q,h=>by
  obtain⟨h1,h2⟩:=z1x L k q h;have ih:=zi8 hL i k _ h2;have hp:2^(k+1)=2^k+2^k:=(by rw[Nat.pow_succ];omega);simp only[wd,ln];by_cases e:i<tl L (k+1) q
  · rw[if_pos e,if_pos e,show k+1 - (1+ln L k (2*(q - tl L (k+1) q)) i)=k - ln L k (2*(q - tl L (k+1) q)) i by omega,hp];omega
  · have h0:=zbb hL k _ h2 (show tl L k (2*(q - tl L (k+1) q))<=i from qK (z9Q hL k q h) (by omega))
    rw[h0] at ih ⊢;rw[if_neg e,if_neg e,hp];simp only[Nat.sub_zero,Nat.add_zero,Nat.zero_add] at ih ⊢;rw[hp];omega
theorem zin(L:List Th):∀k q,q<=(row L k).length->2*sm (wd L k q) L.length=q*2^k
 |0,q,h=>by
  obtain rfl:q=0:=by simpa [row] using h
  have e:sm (wd L 0 0) L.length=sm (λ_=>0) L.length:=sm_congr _ (λi _=>rfl);rw[e,z1B]
 |k+1,q,h=>by
  obtain⟨h1,h2⟩:=z1x L k q h;have ih:=zin L k _ h2;have h4:=z5b L (k+1) q;have h5:=zjR L (k+1) q;have e:sm (wd L (k+1) q) L.length=tl L (k+1) q*2^k+sm (wd L k (2*(q - tl L (k+1) q))) L.length:=by
   rw[<-z2s (2^k),<-zf6 (λ_=>2^k) _ _ h4,<-z5h];rfl
  rw[e,Nat.mul_add,ih,Nat.pow_succ];obtain⟨x,hx⟩:∃x,q=tl L (k+1) q+x:=⟨q - tl L (k+1) q,by omega⟩
  generalize tl L (k+1) q=a at*;subst hx;rw[show a+x - a=x by omega,Nat.add_mul];generalize 2^k=p;rw[show a*(p*2)=2*(a*p) by rw[Nat.mul_comm p,Nat.mul_left_comm],show x*(p*2)=2*x*p by rw[Nat.mul_comm p,Nat.mul_left_comm,Nat.mul_assoc]]
theorem zka{L:List Th}(hL:Up L)(k:Nat)(h0:0<L.length)(h:2*L.length - 2<=(row L k).length):sm (λi=>2^(k - ln L k (2*L.length - 2) i)) L.length=2^k:=by
 have h1:=zin L k _ h;have h2:sm (λi=>wd L k (2*L.length - 2) i+2^(k - ln L k (2*L.length - 2) i)) L.length=L.length*2^k:=by
  rw[<-z2s (2^k)];exact sm_congr _ (λi _=>zi8 hL i k _ h)
 rw[z5h] at h2;obtain⟨n,hn⟩:∃n,L.length=n+1:=⟨L.length - 1,by omega⟩
 rw[hn] at h1 h2 ⊢;rw[show 2*(n+1) - 2=2*n by omega] at h1 h2 ⊢;rw[Nat.add_mul,Nat.one_mul] at h2;have h3:sm (wd L k (2*n)) (n+1)=n*2^k:=by
  have e:2*n*2^k=2*(n*2^k):=(by rw[Nat.mul_assoc]);omega
 omega
theorem zf0{L:List Th}(hL:Up L)(h2:2<=L.length):∀k,2*L.length - 2<=(row L k).length->tl L k (2*L.length - 2)=L.length
 |0,h=>by simp[row] at h;omega
 |k+1,h=>by
  obtain⟨g1,g2⟩:=z1x L k _ h;have g3:=z5b L (k+1) (2*L.length - 2);apply Nat.le_antisymm g3;apply Nat.le_of_not_lt;intro hlt;obtain⟨a,ha⟩:∃a,tl L (k+1) (2*L.length - 2)=a:=⟨_,rfl⟩
  rw[ha] at g1 g2 hlt;have ih:=zf0 hL h2 k (by omega);cases k with
  |zero=>simp[tl] at ih;omega
  |succ k=>
   have hm:L[a]∈L.take (nl L (pks (row L k)) (2*L.length - 2)):=by
    rw[List.mem_take_iff_getElem];exact⟨a,by rw[Nat.lt_min];exact⟨by show a<tl L (k+1) _;omega,hlt⟩,rfl⟩
   have hm2:=z2y _ _ _ _ hm;rw[show 2*L.length - 2=2*(L.length - 1) by omega] at hm2;obtain⟨u,hu,hw⟩:=z6u (L[a]) (row L (k+1)) (L.length - 1) (by omega) hm2;have hu2:u∈(pks (row L (k+1))).take (2*L.length - 2 - a):=by
    have:(pks (row L (k+1))).take (L.length - 1)=((pks (row L (k+1))).take (2*L.length - 2 - a)).take (L.length - 1):=by
     rw[List.take_take,Nat.min_eq_left (by omega)]
    rw[this] at hu;exact List.mem_of_mem_take hu
   have:=z4x u (L[a]) L (pks (row L (k+1))) (2*L.length - 2) hL (by
    show L[tl L (k+1+1) _]? =_
    rw[ha];exact qE hlt) (by
    show u∈(pks (row L (k+1))).take (_ - tl L (k+1+1) _)
    rw[ha];exact hu2)
   omega
theorem ziX{L:List Th}(hL:Up L)(h2:2<=L.length){k i:Nat}(h:2*L.length - 2<=(row L k).length)(hi:i<L.length):1<=ln L k (2*L.length - 2) i:=by
 have:=zf0 hL h2 k h;cases k with
 |zero=>simp[tl] at this;omega
 |succ k=>simp only[ln];rw[this,if_pos hi];omega
theorem z7k(L:List Th):∀k j,L.length<=2^k*j->2*L.length<=(row L k).length+2*j
 |0,j,h=>by simp[row] at*;omega
 |k+1,j,h=>by
  have:=z7k L k (2*j) (by rw[Nat.pow_succ] at h;rwa [<-Nat.mul_assoc]);rw[z8H];omega
theorem z0X(L:List Th)(k:Nat)(h:L.length<=2^k):2*L.length - 2<=(row L k).length:=by
 have:=z7k L k 1 (by omega);omega
end
def cnt(l:Nat->Nat)(s:Nat):Nat->Nat
 |0=>0
 |k+1=>cnt l s k+if l k=s then 1 else 0
def wt(x:Nat):Nat:=if x=0 then 0 else 2^(15 - x)
def z02(l:Nat->Nat):Nat->Nat
 |0=>0
 |k+1=>z02 l k+wt (l k)
def c0(l:Nat->Nat)(n s:Nat):Nat:=if s=0 then 0 else cnt l s n
def aw(c:Nat->Nat):Nat->Nat
 |0=>0
 |s+1=>aw c s+c s*2^(15 - s)
def fs(c:Nat->Nat):Nat->Nat
 |0=>0
 |s+1=>(fs c s+c s)*2
def cod(l:Nat->Nat)(n i:Nat):Nat:=if l i=0 then 0 else fs (c0 l n) (l i)+cnt l (l i) i
def May(l:Nat->Nat)(n:Nat):Prop:=n<=320/\∀i,i<n->l i<=15
instance (l:Nat->Nat) (n:Nat):Decidable (May l n):=inferInstanceAs (Decidable (n<=320/\∀i,i<n->l i<=15))
def kind(l:Nat->Nat)(n:Nat):Nat:=if May l n then(if z02 l n=0 then 0 else if 32768<z02 l n then 4 else if z02 l n=32768 then 2 else if c0 l n 1=1/\z02 l n=16384 then 1 else 3) else 5
def erc(l:Nat->Nat)(n:Nat):Nat:=if kind l n=5 then 2 else if kind l n=4 then 7 else 0
def z32(l:Nat->Nat)(n:Nat):Nat:=if erc l n=0 then n else 0
theorem z1R{l:Nat->Nat}{n:Nat}(h:¬May l n):kind l n=5:=by unfold kind;rw[if_neg h]
theorem z0R{l:Nat->Nat}{n:Nat}(h:May l n):kind l n=if z02 l n=0 then 0 else if 32768<z02 l n then 4 else if z02 l n=32768 then 2 else if c0 l n 1=1/\z02 l n=16384 then 1 else 3:=by unfold kind;rw[if_pos h]
theorem z2C{l:Nat->Nat}{n:Nat}(h:kind l n≠5):May l n:=by
 apply Classical.byContradiction
 intro g;exact h (z1R g)
theorem zbm(l:Nat->Nat)(n:Nat):kind l n<=5:=by
 by_cases h:May l n
 · rw[z0R h];repeat' split
   all_goals omega
 · rw[z1R h];omega
theorem z1e{l:Nat->Nat}{n:Nat}(h5:kind l n≠5)(h4:kind l n≠4):May l n/\z02 l n<=32768:=by
 have hm:=z2C h5;refine⟨hm,?_⟩;rw[z0R hm] at h4;by_cases h0:z02 l n=0
 · omega
 · rw[if_neg h0] at h4
   by_cases h1:32768<z02 l n
   · rw[if_pos h1] at h4;omega
   · omega
theorem zc2(l:Nat->Nat)(s:Nat):∀k,cnt l s k<=k
 |0=>qR
 |k+1=>by
  have:=zc2 l s k;simp only[cnt];split<;>omega
theorem z4P(l:Nat->Nat)(s:Nat){j k:Nat}(h:j<=k):cnt l s j<=cnt l s k:=by
 induction k with
 |zero=>obtain rfl:j=0:=by omega
        exact qR
 |succ k ih=>
  by_cases e:j=k+1
  · subst e;exact qR
  · have:=ih (by omega)
    simp only[cnt];omega
theorem zjj(l:Nat->Nat){i k:Nat}(h:i<k):cnt l (l i) i<cnt l (l i) k:=by
 have h1:cnt l (l i) (i+1)=cnt l (l i) i+1:=(by simp[cnt]);have h2:=z4P l (l i) (show i+1<=k from h);omega
theorem zjN(x:Nat):wt x<=16384:=by
 unfold wt;split
 · omega
 · exact Nat.pow_le_pow_right (by omega) (show 15 - x<=14 by omega)
theorem z9x{x:Nat}(h:x≠0):1<=wt x:=by unfold wt;rw[if_neg h];exact Nat.one_le_two_pow
theorem z57(l:Nat->Nat):∀k,z02 l k<=k*16384
 |0=>by simp[z02]
 |k+1=>by have:=z57 l k;have:=zjN (l k);simp only[z02];omega
theorem z6Q(l:Nat->Nat)(n s:Nat):c0 l n s<=n:=by unfold c0;split;omega;exact zc2 l s n
theorem z5Y(l:Nat->Nat)(n:Nat):∀m,aw (c0 l (n+1)) m=aw (c0 l n) m+if l n<m then wt (l n) else 0
 |0=>by simp[aw]
 |m+1=>by
  simp only[aw];rw[z5Y l n m];have hc:c0 l (n+1) m*2^(15 - m)=c0 l n m*2^(15 - m)+if l n=m then wt m else 0:=by
   unfold c0 wt;by_cases h0:m=0
   · rw[if_pos h0,if_pos h0,if_pos h0];split<;>simp
   · rw[if_neg h0,if_neg h0,if_neg h0]
     simp only[cnt]
     split
     · rw[Nat.add_mul,Nat.one_mul]
     · simp
  rw[hc];by_cases h1:l n<m
  · have h2:¬l n=m:=by omega
    have h3:l n<m+1:=(by omega);rw[if_pos h1,if_neg h2,if_pos h3];omega
  · by_cases h2:l n=m
    · have h3:l n<m+1:=by omega
      rw[if_neg h1,if_pos h2,if_pos h3,h2];omega
    · have h3:¬l n<m+1:=by omega
      rw[if_neg h1,if_neg h2,if_neg h3];omega
theorem zcs(l:Nat->Nat):∀m,aw (c0 l 0) m=0
 |0=>rfl
 |m+1=>by simp only[aw];rw[zcs l m];unfold c0;split<;>simp[cnt]
theorem z0m(l:Nat->Nat):∀n,(∀i,i<n->l i<=15)->aw (c0 l n) 16=z02 l n
 |0,_=>zcs l 16
 |n+1,h=>by
  have h1:=h n (by omega);rw[z5Y,if_pos (show l n<16 by omega),z0m l n (λi hi=>h i (by omega))];rfl
theorem zct(c:Nat->Nat){s t:Nat}(h:s<=t):aw c s<=aw c t:=by
 induction t with
 |zero=>obtain rfl:s=0:=by omega
        exact qR
 |succ t ih=>
  by_cases e:s=t+1
  · subst e;exact qR
  · have:=ih (by omega)
    simp only[aw];exact qK this (Nat.le_add_right _ _)
theorem zho(c:Nat->Nat):∀s,s<=15->fs c s*2^(15 - s)=aw c s
 |0,_=>by simp[fs,aw]
 |s+1,h=>by
  have h1:=zho c s (by omega);have h2:2^(15 - s)=2*2^(15 - (s+1)):=(by rw[show 15 - s=(15 - (s+1))+1 by omega,Nat.pow_succ];omega);simp only[fs,aw];rw[<-h1,Nat.mul_assoc,<-h2,Nat.add_mul]
theorem zfC(c:Nat->Nat)(s:Nat)(h:s<=15):(fs c s+c s)*2^(15 - s)=aw c (s+1):=by
 rw[Nat.add_mul,zho c s h];rfl
theorem zhn{c:Nat->Nat}{s:Nat}(h:s<=15)(hw:aw c 16<=32768):fs c s+c s<=2^s:=by
 have h1:=zfC c s h;have h2:=zct c (show s+1<=16 by omega);have h3:(fs c s+c s)*2^(15 - s)<=2^s*2^(15 - s):=by
  rw[h1,<-Nat.pow_add,show s+(15 - s)=15 by omega];exact qK h2 hw
 exact Nat.le_of_mul_le_mul_right h3 (Nat.two_pow_pos _)
theorem z7W{c:Nat->Nat}(hc:∀s,s<16->c s<=320):∀s,s<=16->fs c s+640<=640*2^s
 |0,_=>by simp[fs]
 |s+1,h=>by
  have h1:=z7W hc s (by omega);have h2:=hc s (by omega);rw[Nat.pow_succ];simp only[fs];omega
theorem z8h{c:Nat->Nat}(hc:∀s,s<16->c s<=320):∀s,s<=16->aw c s<=s*10485760
 |0,_=>by simp[aw]
 |s+1,h=>by
  have h1:=z8h hc s (by omega);have h2:c s*2^(15 - s)<=320*2^15:=Nat.mul_le_mul (hc s (by omega)) (Nat.pow_le_pow_right (by omega) (by omega));simp only[aw];omega
def nz(l:Nat->Nat):Nat->Nat
 |0=>0
 |k+1=>nz l k+if l k=0 then 0 else 1
def lst(l:Nat->Nat):Nat->Nat
 |0=>0
 |k+1=>if l k=0 then lst l k else l k
theorem ziJ(l:Nat->Nat):∀k,nz l k<=k
 |0=>qR
 |k+1=>by have:=ziJ l k;simp only[nz];split<;>omega
theorem zfs{l:Nat->Nat}:∀k,(∀i,i<k->l i<=15)->lst l k<=15
 |0,_=>by simp[lst]
 |k+1,h=>by
  have h1:=zfs k (λi hi=>h i (by omega));have h2:=h k (by omega);simp only[lst];split<;>omega
theorem z4z(l:Nat->Nat):∀k,cnt l 1 k<=nz l k/\16384*cnt l 1 k+(nz l k - cnt l 1 k)<=z02 l k/\(nz l k=0->z02 l k=0)/\(nz l k=1->z02 l k=wt (lst l k)/\cnt l 1 k=if lst l k=1 then 1 else 0)
 |0=>by simp[cnt,nz,z02]
 |k+1=>by
  obtain⟨h1,h2,h3,h4⟩:=z4z l k;by_cases h0:l k=0
  · have e:wt (l k)=0:=by unfold wt;rw[if_pos h0]
    have e1:¬l k=1:=(by omega);have e2:lst l (k+1)=lst l k:=(by simp only[lst];rw[if_pos h0]);rw[e2];simp only[cnt,nz,z02];rw[if_pos h0,if_neg e1,e];exact⟨h1,h2,h3,h4⟩
  · have hp:=z9x h0
    have e2:lst l (k+1)=l k:=(by simp only[lst];rw[if_neg h0]);rw[e2];by_cases e1:l k=1
    · have e:wt (l k)=16384:=by rw[e1];rfl
      simp only[cnt,nz,z02];rw[if_neg h0,if_pos e1,e];refine⟨by omega,by omega,by omega,λg=> ?_⟩;have g0:nz l k=0:=(by omega);have g1:=h3 g0;exact⟨by omega,by omega⟩
    · simp only[cnt,nz,z02]
      rw[if_neg h0,if_neg e1];refine⟨by omega,by omega,by omega,λg=> ?_⟩;have g0:nz l k=0:=(by omega);have g1:=h3 g0;exact⟨by omega,by omega⟩
theorem ze1{l:Nat->Nat}{n:Nat}(h:May l n):kind l n=if nz l n=0 then 0 else if 32768<z02 l n then 4 else if z02 l n=32768 then 2 else if nz l n=1/\lst l n=1 then 1 else 3:=by
 obtain⟨h1,h2,h3,h4⟩:=z4z l n;rw[z0R h];have e1:c0 l n 1=cnt l 1 n:=rfl;have i1:z02 l n=0↔nz l n=0:=⟨λg=>by omega,h3⟩
 have i2:(c0 l n 1=1/\z02 l n=16384)↔(nz l n=1/\lst l n=1):=by
  rw[e1];constructor
  · rintro⟨a,b⟩
    have c:nz l n=1:=(by omega);refine⟨c,?_⟩;have d:=(h4 c).2;rw[a] at d
    split at d
    · assumption
    · omega
  · rintro⟨a,b⟩
    obtain⟨c,d⟩:=h4 a;rw[b] at c d;exact⟨by simpa using d,c⟩
 simp only[i1,i2]
theorem zji{l:Nat->Nat}{n i:Nat}(hm:May l n)(hw:z02 l n<=32768)(hi:i<n):cod l n i<2^l i\/l i=0:=by
 by_cases h0:l i=0
 · exact .inr h0
 · refine .inl ?_
   have h1:=hm.2 i hi;have h2:=zhn (c:=c0 l n) h1 (by rw[z0m l n hm.2];exact hw);have h3:=zjj l hi;have h4:c0 l n (l i)=cnt l (l i) n:=(by unfold c0;rw[if_neg h0]);unfold cod;rw[if_neg h0];omega
theorem z4O{l:Nat->Nat}{n i:Nat}(hm:May l n)(hw:z02 l n<=32768)(hi:i<n):cod l n i<2^l i:=by
 rcases zji hm hw hi with h|h
 · exact h
 · unfold cod;rw[if_pos h,h];decide
theorem z3j{l:Nat->Nat}{n i:Nat}(hm:May l n)(hw:z02 l n<=32768)(hi:i<n):cod l n i<32768:=
 Nat.lt_of_lt_of_le (z4O hm hw hi) (Nat.pow_le_pow_right (by omega) (hm.2 i hi):2^l i<=2^15)
theorem zde{l:Nat->Nat}{n m k:Nat}(hm:May l n)(hw:z02 l n<=32768)(h1:1<=m)(h15:m<=15)(hk:k<=n):fs (c0 l n) m+cnt l m k<=2^m:=by
 have h2:=zhn (c:=c0 l n) h15 (by rw[z0m l n hm.2];exact hw);have h3:=z4P l m hk;have h4:c0 l n m=cnt l m n:=(by unfold c0;rw[if_neg (by omega)]);omega
end Go.Proofs.YthgilhebnlglkaaGreatDoor.M
namespace Go.Proofs.YthgilhebnlglkaaGreatDoor.M
open Go Go.RowKit
def z0e(w:World)(k:IntKind)(A:Option Addr)(n:Nat)(f:Nat->Int):Prop:=
 0<n->∃b o,A=some ⟨b,o,none⟩/\b<w.heap.size/\∀i,i<n->w.cell? ⟨b,o+i,none⟩=some (.int k (f i))
def z6V(w:World)(A:Option Addr)(n:Nat)(f g:Nat->Nat):Prop:=
 0<n->∃b o,A=some ⟨b,o,none⟩/\b<w.heap.size/\∀i,i<n->w.cell? ⟨b,o+i*2,none⟩=some (.int .u32 (f i))/\w.cell? ⟨b,o+i*2+1,none⟩=some (.int .u8 (g i))
section
variable {w w':World} {k:IntKind} {A:Option Addr} {n:Nat} {f f':Nat->Int} {g h g' h':Nat->Nat}
theorem z0e.below(H:z0e w k A n f)(hb:Below w.heap.size w w'):z0e w' k A n f:=λhn=>by
 obtain⟨b,o,e,hlt,hc⟩:=H hn;exact⟨b,o,e,Nat.lt_of_lt_of_le hlt hb.size,λi hi=>(hb.cell hlt).trans (hc i hi)⟩
theorem z6V.below(H:z6V w A n g h)(hb:Below w.heap.size w w'):z6V w' A n g h:=λhn=>by
 obtain⟨b,o,e,hlt,hc⟩:=H hn;exact⟨b,o,e,Nat.lt_of_lt_of_le hlt hb.size,λi hi=>⟨(hb.cell hlt).trans (hc i hi).1,(hb.cell hlt).trans (hc i hi).2⟩⟩
theorem z6V.nil(w:World)(A:Option Addr)(g h:Nat->Nat):z6V w A 0 g h:=λhn=>absurd hn (by omega)
theorem z0e.congr(H:z0e w k A n f)(e:∀i,i<n->f i=f' i):z0e w k A n f':=λhn=>by
 obtain⟨b,o,e1,hlt,hc⟩:=H hn;exact⟨b,o,e1,hlt,λi hi=>by rw[hc i hi,e i hi]⟩
theorem z0e.drewN(H:z0e w k A n f)(m:Nat):z0e (w.drewN m) k A n f:=H
theorem z0b{B:Nat}(hb:Below B w w')(m:Nat):Below B w (w'.drewN m):=⟨hb.os,hb.tape,hb.output,hb.size,hb.block⟩
end
structure Kept(S:Nat->Prop)(w w':World):Prop where
 os:w'.os=w.os
 tape:w'.tape=w.tape
 output:w'.output=w.output
 size:w.heap.size<=w'.heap.size
 block:∀k,k<w.heap.size->¬S k->w'.heap[k]? =w.heap[k]?
def NoB:Nat->Prop:=λ_=>False
variable {S T U:Nat->Prop} {w w' w'':World}
theorem Kept.refl(S:Nat->Prop)(w:World):Kept S w w:=⟨rfl,rfl,rfl,qR,λ_ _ _=>rfl⟩
theorem Kept.trans(h:Kept S w w')(k:Kept T w' w'')(hT:∀j,T j->S j\/w.heap.size<=j):Kept S w w'':=
 ⟨k.os.trans h.os,k.tape.trans h.tape,k.output.trans h.output,qK h.size k.size,λj hj hS=>
  (k.block j (Nat.lt_of_lt_of_le hj h.size) (λht=>by rcases hT j ht with g|g;exact hS g;omega)).trans (h.block j hj hS)⟩
theorem Kept.mono(h:Kept S w w')(hS:∀j,S j->T j):Kept T w w':=⟨h.os,h.tape,h.output,h.size,λj hj hT=>h.block j hj (λg=>hT (hS j g))⟩
theorem Kept.none(h:Kept NoB w w')(S:Nat->Prop):Kept S w w':=h.mono λ_ g=>g.elim
theorem Kept.drew(h:Kept S w w'):Kept S w w'.drew:=⟨h.os,h.tape,h.output,h.size,h.block⟩
theorem Kept.drewN(h:Kept S w w')(n:Nat):Kept S w (w'.drewN n):=⟨h.os,h.tape,h.output,h.size,h.block⟩
theorem Kept.alloc(h:Kept S w w')(o:Obj):Kept S w (w'.alloc o):=
 h.trans (T:=NoB) ⟨rfl,rfl,rfl,by simp,λk hk _=>Below.heap_alloc _ _ _ hk⟩ (λ_ g=>g.elim)
theorem Kept.setCell(h:Kept S w w')(a:Addr)(ha:S a.block\/w.heap.size<=a.block)(u:Value):Kept S w (w'.setCell a u):=
 h.trans (T:=λj=>j=a.block) ⟨rfl,rfl,rfl,by simp[World.setCell],λk hk g=>Below.heap_setCell _ _ _ _ g⟩ (λ_ g=>by subst g;exact ha)
theorem Kept.grown(h:Kept S w w'){row:Option Nat}(hg:w'.grownBy w'' row)(hr:∀k,row=some k->S k\/w.heap.size<=k):Kept S w w'':=
 h.trans (T:=λj=>row=some j) ⟨hg.os,hg.tape,hg.output,hg.size,λk hk g=>hg.block k hk (λe=>g e.symm)⟩ hr
theorem Kept.of_grown{row:Option Nat}(hg:w.grownBy w' row):Kept (λj=>row=some j) w w':=(Kept.refl _ w).grown hg (λk hk=> .inl hk)
theorem Kept.below(h:Kept S w w'){B:Nat}(hB:B<=w.heap.size)(hS:∀j,S j->B<=j):Below B w w':=
 ⟨h.os,h.tape,h.output,h.size,λk hk=>h.block k (Nat.lt_of_lt_of_le hk hB) (λg=>by have:=hS k g;omega)⟩
theorem Kept.of_below(h:Below w.heap.size w w'):Kept NoB w w':=⟨h.os,h.tape,h.output,h.size,λk hk _=>h.block k hk⟩
theorem Kept.cell(h:Kept S w w'){a:Addr}{v:Value}(hc:w.cell? a=some v)(hS:¬S a.block):w'.cell? a=some v:=
 (World.cell?_of_block (h.block a.block (World.block_lt_of_cell? w a hc) hS)).trans hc
theorem Kept.frozen(h:Kept S w w'){a:Addr}(hk:a.block<w.heap.size)(hS:¬S a.block):w'.frozen? a=w.frozen? a:=World.frozen?_of_block (h.block a.block hk hS)
theorem z0F{B:Nat}{e:TypeId}{size n:Nat}{v:Value}{xs:List Value}(h:w.ownsRow B e size v n xs)(hb:∀g,v.ownBlock=some g->w'.heap[g]? =w.heap[g]?):w'.ownsRow B e size v n xs:=by
 obtain⟨h1,h2⟩:=h;refine⟨h1,?_⟩;rcases h2 with h2|⟨g,cap,cur,rfl,hg,hh,r⟩
 · exact .inl h2
 · exact .inr ⟨g,cap,cur,rfl,hg,by rw[hb g rfl];exact hh,r⟩
theorem Kept.own{B:Nat}{e:TypeId}{size n:Nat}{v:Value}{xs:List Value}(h:Kept S w w')(ho:w.ownsRow B e size v n xs)(hS:∀g,v.ownBlock=some g->¬S g):w'.ownsRow B e size v n xs:=
 z0F ho λg hg=>h.block g (ho.lt g hg).2 (hS g hg)
end Go.Proofs.YthgilhebnlglkaaGreatDoor.M
namespace Go.Proofs.YthgilhebnlglkaaGreatDoor
open Go.RowKit M
def TL(f:Nat->Nat):List Value:=(List.range 16).map λi=>Value.int .u32 (f i)
def TV(f:Nat->Nat):Array Value:=(TL f).toArray
theorem z3v(f:Nat->Nat):(TL f).length=16:=by unfold TL;rw[List.length_map,List.length_range]
theorem z1F(f:Nat->Nat):(TV f).size=16:=by unfold TV;rw[List.size_toArray,z3v]
theorem zjt(f:Nat->Nat)(i:Nat)(h:i<16):(TL f)[i]? =some (.int .u32 (f i)):=by
 unfold TL;rw[List.getElem?_map,List.getElem?_range h];rfl
theorem zhU(f:Nat->Nat)(i:Nat)(h:i<16):(TV f)[i]? =some (.int .u32 (f i)):=by
 unfold TV;rw[List.getElem?_toArray,zjt f i h]
theorem zjs(f:Nat->Nat):∀v∈TL f,v.oneCell'=true:=by
 intro v hv;obtain⟨i,_,rfl⟩:=List.mem_map.1 hv;rfl
theorem zfZ(f:Nat->Nat):(TV f).all (·.oneCell')=true:=all_oneCell_toArray (zjs f)
def Tb(w:World)(b:Nat)(f:Nat->Nat):Prop:=w.rowIs b 372 16 (λi=> .int .u32 (f i))
theorem Tb.row{w:World}{b:Nat}{f:Nat->Nat}(h:Tb w b f):w.heap[b]? =some (.cells (TV f) 372 (0,0)):=by
 obtain⟨c,hb,hn,hc⟩:=h;rw[hb];congr 2;apply Array.ext_getElem?;intro i;by_cases hi:i<16
 · rw[hc i hi,zhU f i hi]
 · rw[Array.getElem?_eq_none (by omega),Array.getElem?_eq_none (by rw[z1F];omega)]
theorem Tb.of_row{w:World}{b:Nat}{f:Nat->Nat}(h:w.heap[b]? =some (.cells (TV f) 372 (0,0))):Tb w b f:=⟨_,h,z1F f,λi hi=>zhU f i hi⟩
theorem Tb.range{w:World}{b:Nat}{f:Nat->Nat}(h:Tb w b f):w.rangeAt b 0 (TL f):=by
 intro j v hv;rw[Nat.zero_add];have hj:j<16:=(by have:=(List.getElem?_eq_some_iff.1 hv).1;rwa [z3v] at this);rw[World.rowIs.cell h hj];rw[zjt f j hj] at hv;exact hv
theorem Tb.cell{w:World}{b:Nat}{f:Nat->Nat}(h:Tb w b f){i:Nat}(hi:i<16):w.cell? ⟨b,i,none⟩=some (.int .u32 (f i)):=World.rowIs.cell h hi
theorem Tb.frozen{w:World}{b:Nat}{f:Nat->Nat}(h:Tb w b f)(i:Nat):w.frozen? ⟨b,i,none⟩=false:=World.rowIs.frozen h i
theorem Tb.congr{w:World}{b:Nat}{f g:Nat->Nat}(h:Tb w b f)(e:∀i,i<16->f i=g i):Tb w b g:=World.rowIs.congr h (λi hi=>by rw[e i hi])
theorem Tb.set{w:World}{b:Nat}{f:Nat->Nat}(h:Tb w b f)(i v:Nat):Tb (w.setCell ⟨b,i,none⟩ (.int .u32 v)) b (λj=>if j=i then v else f j):=
 World.rowIs.congr (World.rowIs.set h i (.int .u32 v)) (λj hj=>by by_cases e:j=i<;>simp[e])
theorem Tb.alloc{w:World}{b:Nat}{f:Nat->Nat}(h:Tb w b f)(o:Obj):Tb (w.alloc o) b f:=World.rowIs.alloc h o
theorem Tb.other{w:World}{b:Nat}{f:Nat->Nat}(h:Tb w b f){a:Addr}(ha:b≠a.block)(v:Value):Tb (w.setCell a v) b f:=World.rowIs.setOther h ha v
theorem Tb.below{w w':World}{b B:Nat}{f:Nat->Nat}(h:Tb w b f)(hb:Below B w w')(hB:b<B):Tb w' b f:=World.rowIs.of_block h (hb.block b hB)
theorem Tb.made(w:World)(f:Nat->Nat):Tb (w.alloc (.cells (TV f) 372)) w.heap.size f:=Tb.of_row (heap_alloc_new w _)
theorem zcv:(prog.info? 372).map (λi=>(i.zero,i.size))=some (some (.agg (TV λ_=>0)),16):=by kernel_rfl
theorem z14(w:World):(zeroValue 372).run prog w=.ok (.agg (TV λ_=>0)) w:=(zero_of_info zcv).1 w
theorem zcu:(prog.info? 372).map (·.size)=some 16:=(zero_of_info zcv).2
theorem z2J(f:Nat->Nat):(prog.info? 372).map (·.size)=some (TV f).size:=by rw[z1F];exact zcu
theorem zeR(f:Nat->Nat):(prog.info? 372).map (·.size)=some (TL f).length:=by rw[z3v];exact zcu
variable {ops:Array Oper} {rest:List Oper} {op:Oper} {a:Act} {w:World} {Q:Exit->Act->World->Prop}
theorem z0t(x:Operand)(ho:op.op=.load 372 x)(hw:Region.wanted op (yielded ops a.tmps)=true)(b:Nat)(hx:a.eval x=.pointer (some ⟨b,0,none⟩))(f:Nat->Nat)(hT:Tb w b f)
 (h:wpList prog ops Q rest (a.put op.dst (.agg (TV f))) w):wpList prog ops Q (op::rest) a w:=
 wpList_step λK hK=>by
  rw[if_pos hw];exact wp_load_mid 372 x ho b 0 hx (TL f) _ hT.range underlying372 rfl (zeR f) (hK _ _ h)
theorem z0w(hg:op.guard=none)(x y:Operand)(ho:op.op=.store 372 x y)(f g:Nat->Nat)(hx:a.eval x=.pointer (some ⟨w.heap.size,0,none⟩))(hy:a.eval y=.agg (TV g))
 (h:wpList prog ops Q rest (a.put op.dst undef) (w.alloc (.cells (TV g) 372))):wpList prog ops Q (op::rest) a (w.alloc (.cells (TV f) 372)):=
 wpList_plain hg λK hK=>by
  refine wp_store_row 372 x y ho w.heap.size (TV g) hx hy 372 (TV f) (heap_alloc_new w _) (z2J g) (by rw[z1F,z1F]) (zfZ g) ?_
  rw[World.setRow_alloc_new];exact hK _ _ h
theorem Tb.setRow{w:World}{b:Nat}{f:Nat->Nat}(h:Tb w b f)(g:Nat->Nat):Tb (w.setRow b (TV g)) b g:=Tb.of_row (setRow_heap w b _ _ _ _ h.row)
theorem below_setRow{B:Nat}{w0 w:World}(h:Below B w0 w)(b:Nat)(c:Array Value)(hb:B<=b):Below B w0 (w.setRow b c):=
 h.trans ⟨rfl,rfl,rfl,by simp[World.setRow],λk hk=>by
  simp only[World.setRow,Array.getElem?_modify];rw[if_neg (by omega)]⟩
theorem z1s(hg:op.guard=none)(x y:Operand)(ho:op.op=.store 372 x y)(b:Nat)(f g:Nat->Nat)(hx:a.eval x=.pointer (some ⟨b,0,none⟩))(hy:a.eval y=.agg (TV g))(hT:Tb w b f)
 (h:wpList prog ops Q rest (a.put op.dst undef) (w.setRow b (TV g))):wpList prog ops Q (op::rest) a w:=
 wpList_plain hg λK hK=>
  wp_store_row 372 x y ho b (TV g) hx hy 372 (TV f) hT.row (z2J g) (by rw[z1F,z1F]) (zfZ g) (hK _ _ h)
theorem zkA(w:World)(f:Nat->Nat)(k:Nat)(hk:k<16):(Instr.index 372 (.agg (TV f)) (.int .i64 k)).run prog w=.ok (.int .u32 (f k)) w:=by
 have h1:(0:Int)<=k/\(k:Int)<(16:Nat):=⟨by omega,by omega⟩;have h2:=zhU f k hk;have hs:(sizeOf 35).run prog w=.ok 1 w:=(by kernel_rfl);have hagg:(isAgg 35).run prog w=.ok false w:=(by kernel_rfl);simp[Instr.index,asIntOf,run_underlying underlying372,h1,hs,part,hagg,h2,Result.andThen];intro g;omega
end Go.Proofs.YthgilhebnlglkaaGreatDoor
namespace Go.Proofs.YthgilhebnlglkaaGreatDoor.M
def lx(p q:Nat×Nat):Prop:=p.1<q.1\/(p.1=q.1/\p.2<q.2)
theorem lx.trans{p q r:Nat×Nat}(h:lx p q)(k:lx q r):lx p r:=by unfold lx at*;omega
theorem lx.irr{p:Nat×Nat}(h:lx p p):False:=by unfold lx at h;omega
def Ord(e:Nat->Nat×Nat)(a b:Nat):Prop:=∀i j,a<=i->i<j->j<b->lx (e i) (e j)
def Rel(e:Nat->Nat×Nat)(a m b:Nat):Prop:=∀i j,a<=i->i<m->m<=j->j<b->(e i).1=(e j).1->(e i).2<(e j).2
structure z3I(e e':Nat->Nat×Nat)(a b:Nat):Prop where
 o:∀i,i<a\/b<=i->e' i=e i
 fro:∀i,a<=i->i<b->∃j,a<=j/\j<b/\e' i=e j
 to:∀i,a<=i->i<b->∃j,a<=j/\j<b/\e i=e' j
section
variable {e e' e'':Nat->Nat×Nat} {a b m c d i j k n:Nat}
theorem z3I.refl(e:Nat->Nat×Nat)(a b:Nat):z3I e e a b:=⟨λ_ _=>rfl,λi h g=>⟨i,h,g,rfl⟩,λi h g=>⟨i,h,g,rfl⟩⟩
theorem z3I.trans(h:z3I e e' a b)(k:z3I e' e'' a b):z3I e e'' a b:=by
 refine⟨λi hi=>(k.o i hi).trans (h.o i hi),λi h1 h2=> ?_,λi h1 h2=> ?_⟩
 · obtain⟨j,j1,j2,q⟩:=k.fro i h1 h2
   obtain⟨l,l1,l2,r⟩:=h.fro j j1 j2;exact⟨l,l1,l2,q.trans r⟩
 · obtain⟨j,j1,j2,q⟩:=h.to i h1 h2
   obtain⟨l,l1,l2,r⟩:=k.to j j1 j2;exact⟨l,l1,l2,q.trans r⟩
theorem z3I.wide(h:z3I e e' a b)(hc:c<=a)(hd:b<=d):z3I e e' c d:=by
 refine⟨λi hi=>h.o i (by omega),λi h1 h2=> ?_,λi h1 h2=> ?_⟩
 · by_cases q:a<=i/\i<b
   · obtain⟨j,j1,j2,r⟩:=h.fro i q.1 q.2
     exact⟨j,by omega,by omega,r⟩
   · exact⟨i,h1,h2,h.o i (by omega)⟩
 · by_cases q:a<=i/\i<b
   · obtain⟨j,j1,j2,r⟩:=h.to i q.1 q.2
     exact⟨j,by omega,by omega,r⟩
   · exact⟨i,h1,h2,(h.o i (by omega)).symm⟩
theorem Ord.sub(h:Ord e a b)(hc:a<=c)(hd:d<=b):Ord e c d:=λi j h1 h2 h3=>h i j (by omega) h2 (by omega)
theorem Ord.congr(h:Ord e a b)(q:∀i,a<=i->i<b->e' i=e i):Ord e' a b:=λi j h1 h2 h3=>by
 rw[q i h1 (by omega),q j (by omega) h3];exact h i j h1 h2 h3
theorem Ord.le(h:Ord e a b)(h1:a<=i)(h2:i<=j)(h3:j<b):e i=e j\/lx (e i) (e j):=by
 by_cases q:i=j
 · subst q;exact .inl rfl
 · exact .inr (h i j h1 (by omega) h3)
def swp(e:Nat->Nat×Nat)(i j t:Nat):Nat×Nat:=if t=i then e j else if t=j then e i else e t
def mvd(e:Nat->Nat×Nat)(j i t:Nat):Nat×Nat:=if t=j then e i else if j<t/\t<=i then e (t - 1) else e t
theorem zdG(e:Nat->Nat×Nat)(i t:Nat):mvd e i i t=e t:=by
 unfold mvd;split
 · subst_vars;rfl
 · rw[if_neg (by omega)]
theorem z7C(e:Nat->Nat×Nat){j i:Nat}(h0:0<j)(h:j<=i)(t:Nat):swp (mvd e j i) j (j - 1) t=mvd e (j - 1) i t:=by
 unfold swp mvd;by_cases h1:t=j
 · subst h1
   rw[if_pos rfl,if_neg (by omega),if_neg (by omega),if_neg (by omega),if_pos (by omega)]
 · rw[if_neg h1]
   by_cases h2:t=j - 1
   · rw[if_pos h2,if_pos rfl,if_pos h2]
   · rw[if_neg h2,if_neg h1,if_neg h2]
     by_cases h3:j<t/\t<=i
     · rw[if_pos h3,if_pos (by omega)]
     · rw[if_neg h3,if_neg (by omega)]
theorem z7D(e:Nat->Nat×Nat){a b j i:Nat}(h1:a<=j)(h2:j<=i)(h3:i<b):z3I e (mvd e j i) a b:=by
 refine⟨λt ht=> ?_,λt g1 g2=> ?_,λt g1 g2=> ?_⟩
 · unfold mvd;rw[if_neg (by omega),if_neg (by omega)]
 · unfold mvd
   split
   · exact⟨i,by omega,h3,rfl⟩
   · split
     · exact⟨t - 1,by omega,by omega,rfl⟩
     · exact⟨t,g1,g2,rfl⟩
 · by_cases q:t=i
   · subst q;exact⟨j,h1,by omega,by unfold mvd;rw[if_pos rfl]⟩
   · by_cases r:j<=t/\t<i
     · exact⟨t+1,by omega,by omega,by unfold mvd;rw[if_neg (by omega),if_pos (by omega)];congr 1⟩
     · exact⟨t,g1,g2,by unfold mvd;rw[if_neg (by omega),if_neg (by omega)]⟩
theorem zaZ{e:Nat->Nat×Nat}{a m i:Nat}(h:Ord e a m)(hr:∀t,a<=t->t<m->(e t).1=(e m).1->(e t).2<(e m).2)(ha:a<=i)(hm:i<=m)
 (h1:∀t,i<=t->t<m->(e m).1<(e t).1) (h2:i=a\/(e (i - 1)).1<=(e m).1):Ord (mvd e i m) a (m+1):=by
 have lo:∀t,a<=t->t<i->lx (e t) (e m):=by
  intro t g1 g2;have q:lx (e (i - 1)) (e m):=by
   have:=hr (i - 1) (by omega) (by omega);unfold lx;omega
  rcases h.le g1 (show t<=i - 1 by omega) (by omega) with r|r
  · rw[r];exact q
  · exact r.trans q
 have hi:∀t,i<=t->t<m->lx (e m) (e t):=λt g1 g2=> .inl (h1 t g1 g2)
 intro x y g1 g2 g3;unfold mvd;by_cases hx:x=i
 · rw[if_pos hx,if_neg (by omega),if_pos (by omega)];exact hi _ (by omega) (by omega)
 · rw[if_neg hx]
   by_cases hy:y=i
   · rw[if_pos hy,if_neg (by omega)];exact lo _ g1 (by omega)
   · rw[if_neg hy]
     by_cases hx2:i<x/\x<=m
     · rw[if_pos hx2,if_pos (by omega)];exact h _ _ (by omega) (by omega) (by omega)
     · rw[if_neg hx2]
       by_cases hy2:i<y/\y<=m
       · rw[if_pos hy2];exact h _ _ g1 (by omega) (by omega)
       · rw[if_neg hy2];exact h _ _ g1 g2 (by omega)
theorem zgU{e e':Nat->Nat×Nat}{n n':Nat}(h:Ord e 0 n)(h':Ord e' 0 n')(q:∀i,i<n->∃j,j<n'/\e i=e' j)(q':∀i,i<n'->∃j,j<n/\e' i=e j):n=n'/\∀i,i<n->e i=e' i:=by
 have key:∀k,k<=n->k<=n'->∀i,i<k->e i=e' i:=by
  intro k
  induction k with
  |zero=>intro _ _ i hi;omega
  |succ k ih=>
   intro h1 h2 i hi;have ih':=ih (by omega) (by omega);by_cases c:i<k
   · exact ih' i c
   · obtain rfl:i=k:=by omega
     obtain⟨x,x1,x2⟩:=q i (by omega);obtain⟨y,y1,y2⟩:=q' i (by omega);have hx:i<=x:=by
      apply Nat.le_of_not_lt;intro hlt
      have:=h x i qZ hlt (by omega);rw[x2,ih' x hlt] at this;exact this.irr
     have hy:i<=y:=by
      apply Nat.le_of_not_lt;intro hlt
      have:=h' y i qZ hlt (by omega);rw[y2,<-ih' y hlt] at this;exact this.irr
     rcases h'.le qZ hx x1 with r|r
     · rw[x2,<-r]
     · rcases h.le qZ hy y1 with s|s
       · rw[s,<-y2]
       · rw[<-y2,x2] at s;exact(r.trans s).irr.elim
 have hn:¬n<n':=by
  intro hlt;obtain⟨y,y1,y2⟩:=q' n hlt;rw[key n qR (by omega) y y1] at y2;have:=h' y n qZ y1 hlt;rw[y2] at this;exact this.irr
 have hn':¬n'<n:=by
  intro hlt;obtain⟨y,y1,y2⟩:=q n' hlt;rw[<-key n' (by omega) qR y y1] at y2;have:=h y n' qZ y1 hlt;rw[y2] at this;exact this.irr
 obtain rfl:n=n':=by omega
 exact⟨rfl,key n qR qR⟩
end
structure Mem(e e':Nat->Nat×Nat)(a b:Nat):Prop where
 fro:∀i,a<=i->i<b->∃j,a<=j/\j<b/\e' i=e j
 to:∀i,a<=i->i<b->∃j,a<=j/\j<b/\e i=e' j
def Inc(e:Nat->Nat×Nat)(n:Nat):Prop:=∀i j,i<j->j<n->(e i).2<(e j).2
def Blk(e0 e:Nat->Nat×Nat)(bs lo hi n:Nat):Prop:=∀p,lo<=p*bs->p*bs<hi->Ord e (p*bs) (min (p*bs+bs) n)/\Mem e0 e (p*bs) (min (p*bs+bs) n)
section
variable {e0 e e':Nat->Nat×Nat} {a b c d m n q bs:Nat}
theorem z3I.mem(h:z3I e e' a b):Mem e e' a b:=⟨h.fro,h.to⟩
theorem Mem.trans{e1 e2:Nat->Nat×Nat}(h:Mem e0 e1 a b)(k:Mem e1 e2 a b):Mem e0 e2 a b:=by
 refine⟨λi h1 h2=> ?_,λi h1 h2=> ?_⟩
 · obtain⟨j,j1,j2,q⟩:=k.fro i h1 h2
   obtain⟨l,l1,l2,r⟩:=h.fro j j1 j2;exact⟨l,l1,l2,q.trans r⟩
 · obtain⟨j,j1,j2,q⟩:=h.to i h1 h2
   obtain⟨l,l1,l2,r⟩:=k.to j j1 j2;exact⟨l,l1,l2,q.trans r⟩
theorem Mem.congr(h:Mem e0 e a b)(q:∀i,a<=i->i<b->e' i=e i):Mem e0 e' a b:=by
 refine⟨λi h1 h2=> ?_,λi h1 h2=> ?_⟩
 · rw[q i h1 h2];exact h.fro i h1 h2
 · obtain⟨j,j1,j2,r⟩:=h.to i h1 h2
   exact⟨j,j1,j2,r.trans (q j j1 j2).symm⟩
theorem Mem.join(h:Mem e0 e a b)(k:Mem e0 e b c)(h1:a<=b)(h2:b<=c):Mem e0 e a c:=by
 refine⟨λi g1 g2=> ?_,λi g1 g2=> ?_⟩
 · by_cases q:i<b
   · obtain⟨j,j1,j2,r⟩:=h.fro i g1 q;exact⟨j,j1,by omega,r⟩
   · obtain⟨j,j1,j2,r⟩:=k.fro i (by omega) g2;exact⟨j,by omega,j2,r⟩
 · by_cases q:i<b
   · obtain⟨j,j1,j2,r⟩:=h.to i g1 q;exact⟨j,j1,by omega,r⟩
   · obtain⟨j,j1,j2,r⟩:=k.to i (by omega) g2;exact⟨j,by omega,j2,r⟩
theorem Mem.of_eq(q:∀i,a<=i->i<b->e i=e0 i):Mem e0 e a b:=⟨λi h1 h2=>⟨i,h1,h2,q i h1 h2⟩,λi h1 h2=>⟨i,h1,h2,(q i h1 h2).symm⟩⟩
theorem zh2(hi:Inc e0 n)(h1:Mem e0 e a m)(h2:Mem e0 e m d)(hd:d<=n):Rel e a m d:=by
 intro i j g1 g2 g3 g4 _;obtain⟨x,x1,x2,q⟩:=h1.fro i g1 g2;obtain⟨y,y1,y2,r⟩:=h2.fro j g3 g4;rw[q,r];exact hi x y (by omega) (by omega)
theorem z89(e0 e:Nat->Nat×Nat)(bs lo n:Nat):Blk e0 e bs lo 0 n:=λp _ h=>absurd h (by omega)
theorem z2I(h:Blk e0 e bs 0 a n)(ha:a=q*bs)(ho:Ord e' a (min (a+bs) n))(hs:∀t,t<a->e' t=e t)(hm:Mem e0 e' a (min (a+bs) n)):Blk e0 e' bs 0 (a+bs) n:=by
 intro p h1 h2;rcases Nat.lt_trichotomy p q with g|g|g
 · have h3:p*bs+bs<=a:=by
    have:=Nat.mul_le_mul_right bs (show p+1<=q from g);rw[Nat.succ_mul] at this;omega
   by_cases h0:bs=0
   · subst h0
     refine⟨λi j k1 k2 k3=> ?_,λi k1 k2=> ?_,λi k1 k2=> ?_⟩<;>(rw[Nat.mul_zero] at*;omega)
   obtain⟨o,k⟩:=h p h1 (by omega);exact⟨o.congr (λt k1 k2=>hs t (by omega)),k.congr (λt k1 k2=>hs t (by omega))⟩
 · subst g;rw[<-ha];exact⟨ho,hm⟩
 · have h3:=Nat.mul_le_mul_right bs (show q+1<=p from g)
   rw[Nat.succ_mul] at h3;omega
theorem zcj(h:Blk e0 e bs a n n)(ha:a=q*(2*bs))(hb:0<bs)(han:a<n):(Ord e a (min (a+bs) n)/\Mem e0 e a (min (a+bs) n))/\(a+bs<n->Ord e (a+bs) (min (a+2*bs) n)/\Mem e0 e (a+bs) (min (a+2*bs) n)):=by
 have h1:2*q*bs=a:=(by rw[ha,Nat.mul_assoc 2,Nat.mul_left_comm 2 q bs]);have h2:(2*q+1)*bs=a+bs:=(by rw[Nat.succ_mul,h1]);refine⟨?_,λh3=> ?_⟩
 · have:=h (2*q) (by omega) (by omega)
   rwa [h1] at this
 · have:=h (2*q+1) (by omega) (by omega)
   rw[h2,show a+bs+bs=a+2*bs by omega] at this;exact this
theorem z5X(hd:Blk e0 e (2*bs) 0 a n)(ht:Blk e0 e bs a n n)(ha:a=q*(2*bs))(hb:0<bs)(hm:a+bs<n)(hi:d=min (a+2*bs) n)(ho:Ord e' a d)(hs:z3I e e' a d):
 Blk e0 e' (2*bs) 0 (a+2*bs) n/\Blk e0 e' bs (a+2*bs) n n:=by
 obtain⟨⟨_,m1⟩,k⟩:=zcj ht ha hb (by omega);obtain⟨_,m2⟩:=k hm;rw[Nat.min_eq_left (by omega)] at m1;rw[<-hi] at m2;refine⟨z2I hd ha (by rw[<-hi];exact ho) (λt g=>hs.o t (.inl g)) (by rw[<-hi];exact(m1.join m2 (by omega) (by omega)).trans hs.mem),?_⟩;intro p h1 h2;obtain⟨o,k2⟩:=ht p (by omega) h2;exact⟨o.congr (λt k1 k2=>hs.o t (.inr (by omega))),k2.congr (λt k1 k2=>hs.o t (.inr (by omega)))⟩
theorem zci(ht:Blk e0 e bs a n n)(ha:a=q*(2*bs))(hb:0<bs)(hm:a+bs<n)(hi:d=min (a+2*bs) n)(hc:Inc e0 n):Ord e a (a+bs)/\Ord e (a+bs) d/\Rel e a (a+bs) d:=by
 obtain⟨⟨o1,m1⟩,k⟩:=zcj ht ha hb (by omega);obtain⟨o2,m2⟩:=k hm;rw[Nat.min_eq_left (by omega)] at m1 o1;rw[<-hi] at m2 o2;exact⟨o1,o2,zh2 hc m1 m2 (by omega)⟩
theorem zeJ(hd:Blk e0 e (2*bs) 0 a n)(ht:Blk e0 e bs a n n)(ha:a=q*(2*bs))(hb:0<bs)(hm:¬a+bs<n)(han:a<=n):Blk e0 e (2*bs) 0 n n:=by
 by_cases g:a=n
 · subst g;exact hd
 · obtain⟨⟨o1,m1⟩,_⟩:=zcj ht ha hb (by omega)
   rw[Nat.min_eq_right (by omega)] at o1 m1;have:=z2I hd ha (e':=e) (by rw[Nat.min_eq_right (by omega)];exact o1) (λ_ _=>rfl) (by rw[Nat.min_eq_right (by omega)];exact m1);intro p h1 h2;exact this p h1 (by omega)
theorem zhN(h:Blk e0 e bs 0 n n)(hb:n<=bs):Ord e 0 n/\Mem e0 e 0 n:=by
 by_cases g:n=0
 · subst g;exact⟨λi j h1 h2 h3=>by omega,λi h1 h2=>by omega,λi h1 h2=>by omega⟩
 · have:=h 0 (by omega) (by omega)
   rw[Nat.zero_mul,Nat.zero_add,Nat.min_eq_right hb] at this;exact this
theorem z4b(h:Blk e0 e bs 0 (a+c) n)(hn:n<=a+c):Blk e0 e bs 0 n n:=λp h1 h2=>h p h1 (by omega)
end
end Go.Proofs.YthgilhebnlglkaaGreatDoor.M
namespace Go.Proofs.YthgilhebnlglkaaGreatDoor
open Go.RowKit M
def cmv(x y:Nat):Int:=if x<y then -1 else if y<x then 1 else 0
theorem z6q(x:Nat)(w:World):Calls prog 338 #[.int .u64 x] w λe w'=>e=.returned (.bool false)/\w=w':=by
 go_enter func338,ntmps338;go_wp2;go_ret;exact⟨by simp,rfl⟩
theorem zhC(x y:Nat)(w:World):Calls prog 321 #[.int .u64 x,.int .u64 y] w λe w'=>e=.returned (.int .i64 (cmv x y))/\w=w':=by
 by_cases h1:x<y
 · have hv:=qH (show cmv x y= -1 by unfold cmv;rw[if_pos h1])
   go_enter func321,ntmps321;go_wp2_with (refine(z6q _ _).mono ?_;rintro e w' ⟨rfl,rfl⟩);go_ret;exact⟨by rw[hv.o];rfl,rfl⟩
 · by_cases h2:y<x
   · have hv:=qH (show cmv x y=1 by unfold cmv;rw[if_neg h1,if_pos h2])
     go_enter func321,ntmps321;go_wp2_with (refine(z6q _ _).mono ?_;rintro e w' ⟨rfl,rfl⟩);go_ret;exact⟨by rw[hv.o];rfl,rfl⟩
   · have hv:=qH (show cmv x y=0 by unfold cmv;rw[if_neg h1,if_neg h2])
     go_enter func321,ntmps321;go_wp2_with (refine(z6q _ _).mono ?_;rintro e w' ⟨rfl,rfl⟩);go_ret;exact⟨by rw[hv.o];rfl,rfl⟩
theorem zdT(x a y b:Nat)(w:World):Calls prog 320 #[.agg #[.int .u64 x,.int .i64 a,.pointer none],.agg #[.int .u64 y,.int .i64 b,.pointer none]] w λe w'=>e=.returned (.int .i64 (cmv x y))/\Below w.heap.size w w':=by
 go_enter func320,ntmps320;go_wp2_with (refine(zhC _ _ _).mono ?_;rintro e w' ⟨rfl,rfl⟩);go_ret;exact⟨rfl,(qL).alloc (by simp) _⟩
def Lfs(w:World)(b n:Nat)(e:Nat->Nat×Nat):Prop:=
 ∃c:Array Value,w.heap[b]? =some (.cells c 386 (0,0))/\n*3<=c.size/\∀i,i<n->c[i*3]? =some (.int .u64 (e i).1)/\c[i*3+1]? =some (.int .i64 (e i).2)/\c[i*3+2]? =some (.pointer none)
section
variable {w w':World} {b n:Nat} {e e':Nat->Nat×Nat}
theorem Lfs.lt(h:Lfs w b n e):b<w.heap.size:=by
 obtain⟨c,hb,_⟩:=h;rcases Nat.lt_or_ge b w.heap.size with g|g
 · exact g
 · rw[Array.getElem?_eq_none g] at hb;cases hb
theorem Lfs.cells(h:Lfs w b n e){i:Nat}(hi:i<n):w.cell? ⟨b,i*3,none⟩=some (.int .u64 (e i).1)/\w.cell? ⟨b,i*3+1,none⟩=some (.int .i64 (e i).2)/\w.cell? ⟨b,i*3+2,none⟩=some (.pointer none):=by
 obtain⟨c,hb,_,hc⟩:=h;rw[cell_of_row w b _ c _ _ hb,cell_of_row w b _ c _ _ hb,cell_of_row w b _ c _ _ hb];exact hc i hi
theorem Lfs.frozen(h:Lfs w b n e)(i:Nat):w.frozen? ⟨b,i,none⟩=false:=by
 obtain⟨c,hb,_⟩:=h;simp[World.frozen?,hb]
theorem Lfs.congr(h:Lfs w b n e)(q:∀i,i<n->e i=e' i):Lfs w b n e':=by
 obtain⟨c,hb,hs,hc⟩:=h;exact⟨c,hb,hs,λi hi=>by rw[<-q i hi];exact hc i hi⟩
theorem Lfs.at'(h:Lfs w b n e)(q:w'.heap[b]? =w.heap[b]?):Lfs w' b n e:=by
 obtain⟨c,hb,hs,hc⟩:=h;exact⟨c,q.trans hb,hs,hc⟩
theorem Lfs.drew(h:Lfs w b n e):Lfs w.drew b n e:=h
theorem Lfs.below(h:Lfs w b n e){B:Nat}(hb:Below B w w')(hB:b<B):Lfs w' b n e:=h.at' (hb.block b hB)
theorem Lfs.set(h:Lfs w b n e)(i x y:Nat):Lfs (((w.setCell ⟨b,i*3,none⟩ (.int .u64 x)).setCell ⟨b,i*3+1,none⟩ (.int .i64 y)).setCell ⟨b,i*3+2,none⟩ (.pointer none)) b n (λj=>if j=i then(x,y) else e j):=by
 obtain⟨c,hb,hs,hc⟩:=h;refine⟨((c.setIfInBounds (i*3) (.int .u64 x)).setIfInBounds (i*3+1) (.int .i64 y)).setIfInBounds (i*3+2) (.pointer none),?_,by simp[hs],λj hj=> ?_⟩
 · simp[World.setCell,Array.getElem?_modify,hb]
 · obtain⟨h1,h2,h3⟩:=hc j hj
   by_cases q:j=i
   · subst q
     have l1:j*3<c.size:=(by omega);have l2:j*3+1<c.size:=(by omega);have l3:j*3+2<c.size:=(by omega);refine⟨?_,?_,?_⟩
     · rw[Array.getElem?_setIfInBounds,if_neg (by omega),Array.getElem?_setIfInBounds,if_neg (by omega),Array.getElem?_setIfInBounds,if_pos rfl,if_pos l1];simp
     · rw[Array.getElem?_setIfInBounds,if_neg (by omega),Array.getElem?_setIfInBounds,if_pos rfl,if_pos (by simpa using l2)];simp
     · rw[Array.getElem?_setIfInBounds,if_pos rfl,if_pos (by simpa using l3)]
   · refine⟨?_,?_,?_⟩
     · rw[Array.getElem?_setIfInBounds,if_neg (by omega),Array.getElem?_setIfInBounds,if_neg (by omega),Array.getElem?_setIfInBounds,if_neg (by omega),h1];simp[q]
     · rw[Array.getElem?_setIfInBounds,if_neg (by omega),Array.getElem?_setIfInBounds,if_neg (by omega),Array.getElem?_setIfInBounds,if_neg (by omega),h2];simp[q]
     · rw[Array.getElem?_setIfInBounds,if_neg (by omega),Array.getElem?_setIfInBounds,if_neg (by omega),Array.getElem?_setIfInBounds,if_neg (by omega),h3]
end
end Go.Proofs.YthgilhebnlglkaaGreatDoor
namespace Go.Proofs.YthgilhebnlglkaaGreatDoor.M
structure Rn where
 s:Nat
 e:Nat
deriving DecidableEq,Inhabited
def tms(r:Rn):Nat:=if r.s<16/\r.e=0 then 1 else if r.s=16/\r.e<4 then 3+r.e else if r.s=17/\r.e<8 then 3+r.e else if r.s=18/\r.e<128 then 11+r.e else 0
def rbs(s:Nat):Int:=if s<16 then 0 else if s=16 then 2 else if s=17 then 3 else if s=18 then 7 else -1
theorem z9L(r:Rn):tms r<=138:=by
 unfold tms
 repeat' split
 all_goals omega
theorem z67{v:Nat}(h:v<16):tms ⟨v,0⟩=1:=by unfold tms;rw[if_pos ⟨h,rfl⟩]
theorem z9P{e:Nat}(h:e<4):tms ⟨16,e⟩=3+e:=by unfold tms;rw[if_neg (λq=>by have:=q.1;simp at this),if_pos ⟨rfl,h⟩]
theorem z9O{e:Nat}(h:e<8):tms ⟨17,e⟩=3+e:=by unfold tms;rw[if_neg (λq=>by have:=q.1;simp at this),if_neg (λq=>by have:=q.1;simp at this),if_pos ⟨rfl,h⟩]
theorem z9N{e:Nat}(h:e<128):tms ⟨18,e⟩=11+e:=by unfold tms;rw[if_neg (λq=>by have:=q.1;simp at this),if_neg (λq=>by have:=q.1;simp at this),if_neg (λq=>by have:=q.1;simp at this),if_pos ⟨rfl,h⟩]
def zrs(n:Nat):List Rn:=
 if h:11<=n then⟨18,min n 138 - 11⟩::zrs (n - min n 138) else if 3<=n then[⟨17,n - 3⟩] else List.replicate n ⟨0,0⟩
termination_by n
decreasing_by omega
theorem z1I{n:Nat}(h:11<=n):zrs n=⟨18,min n 138 - 11⟩::zrs (n - min n 138):=by rw[zrs,dif_pos h]
theorem z1H{n:Nat}(h:¬11<=n)(h3:3<=n):zrs n=[⟨17,n - 3⟩]:=by rw[zrs,dif_neg h,if_pos h3]
theorem z18{n:Nat}(h3:¬3<=n):zrs n=List.replicate n ⟨0,0⟩:=by rw[zrs,dif_neg (by omega),if_neg h3]
def z9u(v n:Nat):List Rn:=
 if h:3<=n then⟨16,min n 6 - 3⟩::z9u v (n - min n 6) else List.replicate n ⟨v,0⟩
termination_by n
decreasing_by omega
theorem z1c{v n:Nat}(h:3<=n):z9u v n=⟨16,min n 6 - 3⟩::z9u v (n - min n 6):=by rw[z9u,dif_pos h]
theorem z12{v n:Nat}(h:¬3<=n):z9u v n=List.replicate n ⟨v,0⟩:=by rw[z9u,dif_neg h]
def oth(v n:Nat):List Rn:=⟨v,0⟩::z9u v (n - 1)
def ru(v:Nat):List Nat->Nat
 |[]=>0
 |x::l=>if x=v then ru v l+1 else 0
theorem zd6(v:Nat):∀l,ru v l<=l.length
 |[]=>qR
 |x::l=>by unfold ru;split;simp only[qC];have:=zd6 v l;omega;exact qZ
theorem zag(v:Nat):∀l,l.take (ru v l)=List.replicate (ru v l) v
 |[]=>rfl
 |x::l=>by
  unfold ru
  split
  · rename_i h;rw[List.take_succ_cons,zag v l,h,List.replicate_succ]
  · rfl
def one(v n:Nat):List Rn:=if v=0 then zrs n else oth v n
def pk:List Nat->List Rn
 |[]=> []
 |v::l=>one v (ru v l+1)++pk (l.drop (ru v l))
termination_by l=>l.length
decreasing_by rw[List.length_drop,qC];omega
theorem z5w:pk []=[]:=by rw[pk]
theorem z31(v:Nat)(l:List Nat):pk (v::l)=one v (ru v l+1)++pk (l.drop (ru v l)):=by rw[pk]
theorem zg2(n:Nat):(zrs n).length<=n:=by
 induction n using Nat.strongRecOn with
 |_ n ih=>
  by_cases h:11<=n
  · rw[z1I h,qC];have:=ih (n - min n 138) (by omega);omega
  · by_cases h3:3<=n
    · rw[z1H h h3,List.length_singleton];omega
    · rw[z18 h3,List.length_replicate];exact qR
theorem zdz(v n:Nat):(z9u v n).length<=n:=by
 induction n using Nat.strongRecOn with
 |_ n ih=>
  by_cases h:3<=n
  · rw[z1c h,qC];have:=ih (n - min n 6) (by omega);omega
  · rw[z12 h,List.length_replicate];exact qR
theorem zaQ(v n:Nat)(hn:1<=n):(one v n).length<=n:=by
 unfold one
 split
 · exact zg2 n
 · unfold oth;rw[qC];have:=zdz v (n - 1);omega
theorem z7w:∀l,(pk l).length<=l.length:=by
 intro l;generalize hn:l.length=n
 induction n using Nat.strongRecOn generalizing l with
 |_ n ih=>
  cases l with
  |nil=>rw[z5w];exact qZ
  |cons v l=>
   rw[z31,qA];have h1:=zaQ v (ru v l+1) (by omega);have h2:=zd6 v l;rw[qC] at hn;have h3:=ih (l.drop (ru v l)).length (by rw[List.length_drop];omega) _ rfl;rw[List.length_drop] at h3;omega
def vlr(out:List Nat)(r:Rn):Nat:=if r.s=16 then out.getLastD 0 else if 16<r.s then 0 else r.s
def unp(n:Nat)(out:List Nat):List Rn->Int×List Nat
 |[]=>if out.length<n then(7,[]) else(0,out)
 |r::L=>if tms r=0 then(2,[]) else if r.s=16/\out=[] then(7,[]) else if n<out.length+tms r then(7,[]) else unp n (out++List.replicate (tms r) (vlr out r)) L
section
variable {n:Nat} {out:List Nat} {r:Rn} {L:List Rn}
theorem zgf(h:tms r=0):unp n out (r::L)=(2,[]):=by rw[unp,if_pos h]
theorem z9F(h:tms r≠0)(h1:r.s=16)(h2:out=[]):unp n out (r::L)=(7,[]):=by rw[unp,if_neg h,if_pos ⟨h1,h2⟩]
theorem z71(h:tms r≠0)(h1:¬(r.s=16/\out=[]))(h2:n<out.length+tms r):unp n out (r::L)=(7,[]):=by rw[unp,if_neg h,if_neg h1,if_pos h2]
theorem z2R(h:tms r≠0)(h1:¬(r.s=16/\out=[]))(h2:¬n<out.length+tms r):unp n out (r::L)=unp n (out++List.replicate (tms r) (vlr out r)) L:=by rw[unp,if_neg h,if_neg h1,if_neg h2]
theorem zcK(h:out.length<n):unp n out []=(7,[]):=by rw[unp,if_pos h]
theorem z9G(h:¬out.length<n):unp n out []=(0,out):=by rw[unp,if_neg h]
end
theorem z9E{n v:Nat}{out:List Nat}{L:List Rn}(hv:v<16)(h:out.length+1<=n):unp n out (⟨v,0⟩::L)=unp n (out++[v]) L:=by
 have ht:=z67 hv;rw[z2R (by rw[ht];decide) (λq=>by have:=q.1;simp only at this;omega) (by rw[ht];omega),ht];have:vlr out ⟨v,0⟩=v:=(by unfold vlr;simp only;rw[if_neg (by omega),if_neg (by omega)]);rw[this];rfl
theorem z4j{n v:Nat}{L:List Rn}(hv:v<16):∀k out,out.length+k<=n->unp n out (List.replicate k ⟨v,0⟩++L)=unp n (out++List.replicate k v) L
 |0,out,_=>by simp
 |k+1,out,h=>by
  rw[List.replicate_succ,List.cons_append,z9E hv (by omega),z4j hv k _ (by rw[qA,List.length_singleton];omega),qD,List.replicate_succ];rfl
theorem zau(a b v:Nat):List.replicate a v++List.replicate b v=List.replicate (a+b) v:=List.replicate_append_replicate
theorem zgd{n:Nat}{L:List Rn}:∀k out,out.length+k<=n->unp n out (zrs k++L)=unp n (out++List.replicate k 0) L:=by
 intro k
 induction k using Nat.strongRecOn with
 |_ k ih=>
  intro out h;by_cases h11:11<=k
  · have ht:tms ⟨18,min k 138 - 11⟩=min k 138:=by rw[z9N (by omega)];omega
    rw[z1I h11,List.cons_append,z2R (by rw[ht];omega) (λq=>by have:=q.1;simp at this) (by rw[ht];omega),ht];have:vlr out ⟨18,min k 138 - 11⟩=0:=(by unfold vlr;simp);rw[this,ih (k - min k 138) (by omega) _ (by rw[qA,List.length_replicate];omega),qD,zau,show min k 138+(k - min k 138)=k by omega]
  · by_cases h3:3<=k
    · have ht:tms ⟨17,k - 3⟩=k:=by rw[z9O (by omega)];omega
      rw[z1H h11 h3,List.singleton_append,z2R (by rw[ht];omega) (λq=>by have:=q.1;simp at this) (by rw[ht];omega),ht];have:vlr out ⟨17,k - 3⟩=0:=(by unfold vlr;simp);rw[this]
    · rw[z18 h3,z4j (by omega) k out h]
theorem zcJ{n v:Nat}{L:List Rn}(hv:v<16):∀k out,out.getLastD 0=v->out≠[]->out.length+k<=n->unp n out (z9u v k++L)=unp n (out++List.replicate k v) L:=by
 intro k
 induction k using Nat.strongRecOn with
 |_ k ih=>
  intro out hl hne h;by_cases h3:3<=k
  · have ht:tms ⟨16,min k 6 - 3⟩=min k 6:=by rw[z9P (by omega)];omega
    rw[z1c h3,List.cons_append,z2R (by rw[ht];omega) (λq=>hne q.2) (by rw[ht];omega),ht];have:vlr out ⟨16,min k 6 - 3⟩=v:=(by show(if(16:Nat)=16 then out.getLastD 0 else _)=v;rw[if_pos rfl,hl]);rw[this,ih (k - min k 6) (by omega) _ ?_ (by simp[hne]) (by rw[qA,List.length_replicate];omega),qD,zau,show min k 6+(k - min k 6)=k by omega];obtain⟨m,hm⟩:∃m,min k 6=m+1:=⟨min k 6 - 1,by omega⟩
    rw[hm,List.replicate_succ',<-qD];simp
  · rw[z12 h3,z4j hv k out h]
theorem zge{n v k:Nat}{L:List Rn}{out:List Nat}(hv:v<16)(hk:1<=k)(h:out.length+k<=n):unp n out (one v k++L)=unp n (out++List.replicate k v) L:=by
 unfold one
 split
 · rename_i e;rw[e];exact zgd k out h
 · unfold oth
   rw[List.cons_append,z9E hv (by omega),zcJ hv (k - 1) _ (by simp) (by simp) (by rw[qA,List.length_singleton];omega),qD];obtain⟨m,rfl⟩:∃m,k=m+1:=⟨k - 1,by omega⟩
   rw[Nat.add_sub_cancel,List.replicate_succ];rfl
theorem zia{n:Nat}{L:List Rn}:∀ (l out:List Nat),(∀v∈l,v<16)->out.length+l.length<=n->unp n out (pk l++L)=unp n (out++l) L:=by
 intro l;generalize hm:l.length=m
 induction m using Nat.strongRecOn generalizing l with
 |_ m ih=>
  intro out hv h;cases l with
  |nil=>rw[z5w,List.nil_append,List.append_nil]
  |cons v l=>
   have h2:=zd6 v l;rw[qC] at hm;have h16:v<16:=hv v (by simp);rw[z31,qD,zge h16 (by omega) (by omega),ih (l.drop (ru v l)).length (by rw[List.length_drop];omega) _ rfl _ (λx hx=>hv x (List.mem_cons_of_mem _ (List.mem_of_mem_drop hx))) (by rw[qA,List.length_replicate,List.length_drop];omega),qD];congr 2;have h3:l=List.replicate (ru v l) v++l.drop (ru v l):=(by rw[<-zag,List.take_append_drop]);rw[List.replicate_succ,List.cons_append,<-h3]
structure Stp(l s:Nat->Nat)(m:Nat):Prop where
 next:∀i,i<m->l (i+1)=l i+s i
 pos:∀i,i<=m->0<s i
def fdn(l:Nat->Nat)(n:Nat):Nat->Nat
 |0=>0
 |k+1=>if l (k+1)<=n then k+1 else fdn l n k
section
variable {l s:Nat->Nat} {m:Nat}
theorem zbI(l:Nat->Nat)(n:Nat):∀k,fdn l n k<=k
 |0=>qR
 |k+1=>by unfold fdn;split;exact qR;exact Nat.le_succ_of_le (zbI l n k)
theorem zbH{n:Nat}(h0:l 0<=n):∀k,l (fdn l n k)<=n
 |0=>h0
 |k+1=>by unfold fdn;split;assumption;exact zbH h0 k
theorem z7Z{n:Nat}:∀k i,fdn l n k<i->i<=k->n<l i
 |0,i,h1,h2=>by unfold fdn at h1;omega
 |k+1,i,h1,h2=>by
  unfold fdn at h1
  split at h1
  · omega
  · by_cases e:i=k+1
    · subst e;omega
    · exact z7Z k i h1 (by omega)
theorem Stp.mono(h:Stp l s m):∀i j,i<j->j<=m->l i+s i<=l j
 |i,0,hij,_=>by omega
 |i,j+1,hij,hj=>by
  by_cases e:i=j
  · subst e;exact Nat.le_of_eq (h.next i (by omega)).symm
  · have:=h.mono i j (by omega) (by omega)
    have:=h.next j (by omega)
    omega
theorem Stp.inn(h:Stp l s m){n:Nat}(h0:l 0<=n)(h1:n<l m+s m):fdn l n m<=m/\l (fdn l n m)<=n/\n<l (fdn l n m)+s (fdn l n m):=by
 refine⟨zbI l n m,zbH h0 m,?_⟩;by_cases e:fdn l n m=m
 · rw[e];exact h1
 · have hl:=zbI l n m
   have:=h.next (fdn l n m) (by omega)
   have:=z7Z (l:=l) (n:=n) m (fdn l n m+1) (by omega) (by omega);omega
theorem Stp.uniq(h:Stp l s m){n i:Nat}(hi:i<=m)(h0:l i<=n)(h1:n<l i+s i):fdn l n m=i:=by
 have hl0:l 0<=l i:=by
  by_cases e:i=0
  · subst e;exact qR
  · have:=h.mono 0 i (by omega) hi;omega
 have hlm:l i+s i<=l m+s m:=by
  by_cases e:i=m
  · subst e;exact qR
  · have:=h.mono i m (by omega) qR;omega
 obtain⟨h2,h3,h4⟩:=h.inn (n:=n) (by omega) (by omega);rcases Nat.lt_trichotomy (fdn l n m) i with q|q|q
 · have:=h.mono _ _ q hi;omega
 · exact q
 · have:=h.mono _ _ q h2;omega
end
def lls:List Nat:=[3,4,5,6,7,8,9,10,11,13,15,17,19,23,27,31,35,43,51,59,67,83,99,115,131,163,195,227,258]
def ll(i:Nat):Nat:=lls.getD i 0
def lb(i:Nat):Nat:=if i<8\/i=28 then 0 else(i - 4) /4
def ls(i:Nat):Nat:=if i=27 then 31 else 2^lb i
theorem zfw:Stp ll ls 28:=⟨by decide,by decide⟩
theorem zdY:∀i,i<=28->lb i<=5:=by decide
theorem ziZ:∀i,i<=28->ll i<=258:=by decide
theorem zk7{i:Nat}(hi:i<=28):ls i<=2^lb i:=by
 unfold ls;split
 · rename_i h;subst h;decide
 · exact qR
def lsy(n:Nat):Nat:=fdn ll n 28
def lex(n:Nat):Nat:=n - ll (lsy n)
theorem zfy{n:Nat}(h:3<=n/\n<=258):lsy n<=28/\ll (lsy n)<=n/\n<ll (lsy n)+ls (lsy n):=zfw.inn h.1 (by show n<258+1;omega)
theorem zdV{n i:Nat}(hi:i<=28)(h0:ll i<=n)(h1:n<ll i+ls i):lsy n=i:=zfw.uniq hi h0 h1
def lof(i e:Nat):Nat:=if i<=28/\e<ls i then ll i+e else 0
theorem zh8{i e:Nat}(h:lof i e≠0):i<=28/\e<ls i/\lof i e=ll i+e/\lsy (lof i e)=i/\lex (lof i e)=e/\3<=lof i e/\lof i e<=258:=by
 by_cases q:i<=28/\e<ls i
 · have hv:lof i e=ll i+e:=by unfold lof;rw[if_pos q]
   have hs:=zdV (n:=ll i+e) q.1 (by omega) (by omega);have h3:∀i,i<=28->3<=ll i/\ll i+ls i<=259:=(by decide);have:=h3 i q.1;refine⟨q.1,q.2,hv,by rw[hv];exact hs,?_,by omega,by omega⟩;rw[hv];unfold lex;rw[hs];omega
 · exact absurd (by unfold lof;rw[if_neg q]) h
theorem zfu{i e:Nat}(hi:i<=28):(e<2^lb i/\¬(i=27/\e=31))↔e<ls i:=by
 unfold ls;by_cases q:i=27
 · subst q
   rw[if_pos rfl,show(2:Nat)^lb 27=32 from rfl];omega
 · rw[if_neg q]
   constructor
   · exact λh=>h.1
   · exact λh=>⟨h,λg=>q g.1⟩
def dls:List Nat:=[1,2,3,4,5,7,9,13,17,25,33,49,65,97,129,193,257,385,513,769,1025,1537,2049,3073,4097,6145,8193,12289,16385,24577]
def dl(i:Nat):Nat:=dls.getD i 0
def db(i:Nat):Nat:=if i<4 then 0 else(i - 2) /2
def ds(i:Nat):Nat:=2^db i
theorem zfG:Stp dl ds 29:=⟨by decide,by decide⟩
theorem zer:∀i,i<=29->db i<=13:=by decide
theorem zjf:∀i,i<=29->dl i<=24577:=by decide
def dsy(n:Nat):Nat:=fdn dl n 29
def dex(n:Nat):Nat:=n - dl (dsy n)
theorem zbQ{n:Nat}(h:1<=n/\n<=32768):dsy n<=29/\dl (dsy n)<=n/\n<dl (dsy n)+ds (dsy n):=zfG.inn h.1 (by show n<24577+8192;omega)
theorem zbP{n i:Nat}(hi:i<=29)(h0:dl i<=n)(h1:n<dl i+ds i):dsy n=i:=zfG.uniq hi h0 h1
def dof(i e:Nat):Nat:=if i<=29/\e<ds i then dl i+e else 0
theorem zhv{i e:Nat}(h:dof i e≠0):i<=29/\e<ds i/\dof i e=dl i+e/\dsy (dof i e)=i/\dex (dof i e)=e/\1<=dof i e/\dof i e<=32768:=by
 by_cases q:i<=29/\e<ds i
 · have hv:dof i e=dl i+e:=by unfold dof;rw[if_pos q]
   have hs:=zbP (n:=dl i+e) q.1 (by omega) (by omega);have h3:∀i,i<=29->1<=dl i/\dl i+ds i<=32769:=(by decide);have:=h3 i q.1;refine⟨q.1,q.2,hv,by rw[hv];exact hs,?_,by omega,by omega⟩;rw[hv];unfold dex;rw[hs];omega
 · exact absurd (by unfold dof;rw[if_neg q]) h
def hit(l:Nat->Nat)(n r i:Nat):Prop:=l i≠0/\cod l n i=r/2^(15 - l i)
instance (l:Nat->Nat) (n r i:Nat):Decidable (hit l n r i):=inferInstanceAs (Decidable (l i≠0/\cod l n i=r/2^(15 - l i)))
def z5K(l:Nat->Nat)(n r:Nat):Nat->Nat
 |0=>0
 |k+1=>z5K l n r k+if hit l n r k then 1 else 0
def hs(l:Nat->Nat)(n r s:Nat):Nat->Nat
 |0=>0
 |k+1=>hs l n r s k+if l k=s/\(s≠0/\cod l n k=r/2^(15 - s)) then 1 else 0
def z4Z(f:Nat->Nat):Nat->Nat
 |0=>0
 |m+1=>z4Z f m+f m
theorem z7a(f g:Nat->Nat):∀m,z4Z (λs=>f s+g s) m=z4Z f m+z4Z g m
 |0=>rfl
 |m+1=>by simp only[z4Z];rw[z7a f g m];omega
theorem z3R{f g:Nat->Nat}:∀m,(∀s,s<m->f s=g s)->z4Z f m=z4Z g m
 |0,_=>rfl
 |m+1,h=>by simp only[z4Z];rw[z3R m (λs hs=>h s (by omega)),h m (by omega)]
theorem z79(x:Nat)(P:Nat->Prop)[DecidablePred P]:∀m,z4Z (λs=>if x=s/\P s then 1 else 0) m=if x<m/\P x then 1 else 0
 |0=>by simp[z4Z]
 |m+1=>by
  simp only[z4Z];rw[z79 x P m];by_cases e:x=m
  · subst e
    by_cases hp:P x<;>simp[hp]
  · by_cases hp:P x
    · by_cases hl:x<m
      · have h2:x<m+1:=by omega
        simp[hp,hl,h2,e]
      · have h2:¬x<m+1:=by omega
        simp[hp,hl,h2,e]
    · simp[hp,e]
theorem z7S(l:Nat->Nat)(n r:Nat):∀k,(∀i,i<k->l i<=15)->z5K l n r k=z4Z (λs=>hs l n r s k) 16
 |0,_=>by simp[z5K,z4Z,hs]
 |k+1,h=>by
  have h16:l k<16:=(by have:=h k (by omega);omega);have e1:z5K l n r (k+1)=z5K l n r k+if hit l n r k then 1 else 0:=rfl;have e2:z4Z (λs=>hs l n r s (k+1)) 16=z4Z (λs=>hs l n r s k+if l k=s/\(s≠0/\cod l n k=r/2^(15 - s)) then 1 else 0) 16:=rfl;have e3:=z79 (l k) (λs=>s≠0/\cod l n k=r/2^(15 - s)) 16;rw[e1,e2,z7a,<-z7S l n r k (λi hi=>h i (by omega)),e3];by_cases hh:hit l n r k
  · rw[if_pos hh,if_pos (⟨h16,hh⟩:l k<16/\(l k≠0/\cod l n k=r/2^(15 - l k)))]
  · rw[if_neg hh,if_neg (λq:l k<16/\(l k≠0/\cod l n k=r/2^(15 - l k))=>hh q.2)]
theorem zj5(l:Nat->Nat)(n r s:Nat)(h0:s≠0):∀k,hs l n r s k=if fs (c0 l n) s<=r/2^(15 - s)/\r/2^(15 - s)<fs (c0 l n) s+cnt l s k then 1 else 0
 |0=>by
  have e2:cnt l s 0=0:=rfl;rw[if_neg (by omega)];rfl
 |k+1=>by
  have e1:hs l n r s (k+1)=hs l n r s k+if l k=s/\(s≠0/\cod l n k=r/2^(15 - s)) then 1 else 0:=rfl;have e2:cnt l s (k+1)=cnt l s k+if l k=s then 1 else 0:=rfl;rw[e1,zj5 l n r s h0 k];by_cases e:l k=s
  · have hc:cod l n k=fs (c0 l n) s+cnt l s k:=by unfold cod;rw[e,if_neg h0]
    rw[if_pos e] at e2;by_cases a:cod l n k=r/2^(15 - s)
    · rw[if_pos (show l k=s/\s≠0/\cod l n k=r/2^(15 - s) from⟨e,h0,a⟩),if_neg (by omega),if_pos (by omega)]
    · rw[if_neg (show ¬(l k=s/\s≠0/\cod l n k=r/2^(15 - s)) from λq=>a q.2.2)]
      by_cases b:fs (c0 l n) s<=r/2^(15 - s)/\r/2^(15 - s)<fs (c0 l n) s+cnt l s k
      · rw[if_pos b,if_pos (by omega)]
      · rw[if_neg b,if_neg (by omega)]
  · rw[if_neg e] at e2
    rw[if_neg (show ¬(l k=s/\s≠0/\cod l n k=r/2^(15 - s)) from λq=>e q.1),show cnt l s (k+1)=cnt l s k from e2];rfl
theorem zbx(l:Nat->Nat)(n r:Nat):∀k,hs l n r 0 k=0
 |0=>rfl
 |k+1=>by
  have e1:hs l n r 0 (k+1)=hs l n r 0 k+if l k=0/\(0≠0/\cod l n k=r/2^(15 - 0)) then 1 else 0:=rfl;rw[e1,zbx l n r k,if_neg (λq=>q.2.1 rfl)]
theorem zke(l:Nat->Nat)(n r s:Nat)(h:s<=15):hs l n r s n=if aw (c0 l n) s<=r/\r<aw (c0 l n) (s+1) then 1 else 0:=by
 by_cases h0:s=0
 · subst h0
   rw[zbx];have:aw (c0 l n) (0+1)=0:=(by simp[aw,c0]);rw[this,if_neg (by omega)]
 · rw[zj5 l n r s h0]
   have hc:cnt l s n=c0 l n s:=(by unfold c0;rw[if_neg h0]);have h1:fs (c0 l n) s<=r/2^(15 - s)↔aw (c0 l n) s<=r:=by
    rw[Nat.le_div_iff_mul_le (Nat.two_pow_pos _),zho _ s h]
   have h2:r/2^(15 - s)<fs (c0 l n) s+c0 l n s↔r<aw (c0 l n) (s+1):=by
    rw[Nat.div_lt_iff_lt_mul (Nat.two_pow_pos _),zfC _ s h]
   rw[hc];simp only[h1,h2]
theorem zko(c:Nat->Nat)(r:Nat):∀m,z4Z (λs=>if aw c s<=r/\r<aw c (s+1) then 1 else 0) m=if r<aw c m then 1 else 0
 |0=>by simp[z4Z,aw]
 |m+1=>by
  simp only[z4Z];rw[zko c r m];have:=zct c (show m<=m+1 by omega);by_cases a:r<aw c m
  · rw[if_pos a,if_neg (by omega),if_pos (by omega)]
  · by_cases b:r<aw c (m+1)
    · rw[if_neg a,if_pos ⟨by omega,b⟩,if_pos b]
    · rw[if_neg a,if_neg (λq=>b q.2),if_neg b]
theorem z7T{l:Nat->Nat}{n:Nat}(r:Nat)(hm:May l n):z5K l n r n=if r<z02 l n then 1 else 0:=by
 rw[z7S l n r n hm.2,z3R 16 (λs hs'=>zke l n r s (by omega)),zko,z0m l n hm.2]
theorem ze0{l:Nat->Nat}{n:Nat}(h:kind l n=2):z02 l n=32768:=by
 have hm:=z2C (show kind l n≠5 by omega);rw[z0R hm] at h;by_cases a:z02 l n=0
 · rw[if_pos a] at h;omega
 · rw[if_neg a] at h
   by_cases b:32768<z02 l n
   · rw[if_pos b] at h;omega
   · rw[if_neg b] at h
     by_cases c:z02 l n=32768
     · exact c
     · rw[if_neg c] at h;split at h<;>omega
theorem z5G{l:Nat->Nat}{n:Nat}(h:kind l n=0):z02 l n=0:=by
 have hm:=z2C (show kind l n≠5 by omega);rw[z0R hm] at h;by_cases a:z02 l n=0
 · exact a
 · rw[if_neg a] at h
   by_cases b:32768<z02 l n
   · rw[if_pos b] at h;omega
   · rw[if_neg b] at h
     by_cases c:z02 l n=32768
     · rw[if_pos c] at h;omega
     · rw[if_neg c] at h;split at h<;>omega
end Go.Proofs.YthgilhebnlglkaaGreatDoor.M
namespace Go.Proofs.YthgilhebnlglkaaGreatDoor.Z
open Go
def z13:Nat:=4294967296
def nums(s:ByteArray):List Nat:=s.data.toList.map (·.toNat)
theorem zeZ(a:Nat)(ha:a<z13):(BitVec.ofInt 32 (a:Int)).toNat=a:=by
 unfold z13 at ha;rw[BitVec.ofInt_natCast,BitVec.toNat_ofNat];exact Nat.mod_eq_of_lt (by omega)
theorem zi6(n:Int):IntKind.u32.wrap n=n%4294967296:=by simp[IntKind.wrap,IntKind.bits,IntKind.signed]
theorem zjq(a b:Nat)(ha:a<z13)(hb:b<z13):bits .and .u32 (a:Int) (b:Int)=((a&&&b:Nat):Int):=by
 have hx:a&&&b<=a:=Nat.and_le_left;show IntKind.u32.wrap ((BitVec.ofInt 32 (a:Int)&&&BitVec.ofInt 32 (b:Int)).toNat:Int)=_
 rw[BitVec.toNat_and,zeZ a ha,zeZ b hb,zi6];unfold z13 at ha;omega
theorem z34(s:ByteArray):(nums s).length=s.size:=by
 unfold nums;rw[List.length_map,Array.length_toList];rfl
def z1X(p:Nat×Nat)(b:Nat):Nat×Nat:=((p.1+b)%65521,(p.2+(p.1+b)%65521)%65521)
def adp(p:Nat×Nat)(l:List Nat):Nat×Nat:=l.foldl z1X p
def lo(a:Nat):Nat:=a%65536%65521
def hi(a:Nat):Nat:=a/65536%65521
def adl(a:Nat)(s:ByteArray):Nat:=(adp (lo a,hi a) (nums s)).2*65536+(adp (lo a,hi a) (nums s)).1
theorem zha(a:Nat):lo a<65521:=Nat.mod_lt _ (by decide)
theorem zhl(a:Nat):hi a<65521:=Nat.mod_lt _ (by decide)
theorem z9k(p:Nat×Nat)(l m:List Nat):adp p (l++m)=adp (adp p l) m:=List.foldl_append
theorem z60(p:Nat×Nat)(b:Nat):(z1X p b).1<65521/\(z1X p b).2<65521:=⟨Nat.mod_lt _ (by decide),Nat.mod_lt _ (by decide)⟩
theorem z8j:∀ (l:List Nat) (p:Nat×Nat),p.1<65521->p.2<65521->(adp p l).1<65521/\(adp p l).2<65521
 |[],p,h1,h2=>⟨h1,h2⟩
 |b::r,p,_,_=>z8j r (z1X p b) (z60 p b).1 (z60 p b).2
theorem z4f(a:Nat)(s:ByteArray):adl a s<z13:=by
 have h:=z8j (nums s) (lo a,hi a) (zha a) (zhl a);unfold adl z13;omega
theorem zaR(s:ByteArray)(k:Nat)(h:k<s.size):(nums s).take (k+1)=(nums s).take k++[s[k].toNat]:=by
 have hl:k<(nums s).length:=(by rw[z34];exact h);have e:∀g,(nums s)[k]'g=s[k].toNat:=by
  intro g;simp only[nums,List.getElem_map];rfl
 rw[List.take_add_one,qE hl,e];rfl
theorem z7B(s:ByteArray):(nums s).take s.size=nums s:=List.take_of_length_le (by rw[z34];exact qR)
theorem z8i(p:Nat×Nat)(s:ByteArray)(k b:Nat)(h:k<s.size)(hb:s[k].toNat=b):adp p ((nums s).take (k+1))=z1X (adp p ((nums s).take k)) b:=by
 rw[zaR s k h,z9k,hb];rfl
theorem zce(s:ByteArray)(k:Nat)(h:k<s.size):s[k].toNat<256:=UInt8.toNat_lt _
end Go.Proofs.YthgilhebnlglkaaGreatDoor.Z
namespace Go.Proofs.YthgilhebnlglkaaGreatDoor.Z
open Go Go.RowKit
theorem z97(a:Nat)(w:World)(h:a<z13):
 Calls prog 118 #[.int .u32 a] w λe w'=>e=.returned (.tuple #[.int .u64 (lo a),.int .u64 (hi a)])/\w=w':=by
 have hm:bits .and .u32 (a:Int) 65535=((a%65536:Nat):Int):=by
  have:=zjq a 65535 h (by decide);rw[show(65535:Nat)=2^16 - 1 from rfl,Nat.and_two_pow_sub_one_eq_mod] at this;exact this
 have h':a<=4294967295:=(by unfold z13 at h;omega);clear h;go_enter func118,ntmps118;go_wp2;go_ret2;exact⟨rfl,rfl⟩
theorem whole_any(l h:Nat)(w:World)(hl:l<65521)(hh:h<65521):
 Calls prog 119 #[.int .u64 l,.int .u64 h] w λe w'=>e=.returned (.int .u32 ((h*65536+l:Nat):Int))/\w=w':=by
 have ho:bits .or .u64 ((h:Int)*65536) (l:Int)=((h*65536+l:Nat):Int):=by
  have:=bits_or_u64_nat (h*65536) l (by omega) (by omega)
  rw[show h*65536|||l=h*65536+l by
   have:=Nat.two_pow_add_eq_or_of_lt (i:=16) (b:=l) (show l<2^16 by omega) h;rw[Nat.mul_comm];exact this.symm] at this
  exact this
 have hw:IntKind.u64.wrap ((h:Int)*65536)=(h:Int)*65536:=(by rw[IntKind.wrap_u64];omega);go_enter func119,ntmps119;go_wp2;go_ret;exact⟨congrArg (λz=>Ending.returned (.int .u32 z)) (by first|rfl|(simp;omega)),rfl⟩
theorem zdI(a:Nat)(s:ByteArray)(w:World)(h:a<z13)(hs:s.size<=maxLen):
 Calls prog 83 #[.int .u32 a,.string s] w λe w'=>e=.returned (.int .u32 (adl a s))/\w=w':=by
 have hs':s.size<=9223372036854775807:=(by unfold maxLen at hs;omega);have HV:=qH (show adl a s=(adp (lo a,hi a) (nums s)).2*65536+(adp (lo a,hi a) (nums s)).1 from rfl);go_enter func83,ntmps83;go_wp2_with (go_at_call 118;refine(z97 a _ h).mono ?_;rintro e w' ⟨rfl,rfl⟩);have hp1:=zha a;have hp2:=zhl a;obtain⟨p,hp⟩:∃p,p=(lo a,hi a):=⟨_,rfl⟩
 rw[<-hp] at HV;have e1:lo a=p.1:=(by rw[hp]);have e2:hi a=p.2:=(by rw[hp]);rw[e1,e2];rw[e1] at hp1;rw[e2] at hp2;clear hp e1 e2
 go_loop [5,6,15] (λx y i=> ∃k:Nat,k<=s.size/\i=.int .i64 k/\x=.int .u64 (adp p ((nums s).take k)).1/\y=.int .u64 (adp p ((nums s).take k)).2) (λ_ _ i=>s.size - (intOf i).toNat)
 case atStart=>exact⟨0,qZ,rfl,rfl,rfl⟩
 case round=>
  obtain⟨k,hk,rfl,rfl,rfl⟩:=hrel;obtain⟨q1,q2⟩:=z8j ((nums s).take k) p hp1 hp2;by_cases hlt:k<s.size
  · have hn:=λb hb=>z8i p s k b hlt hb
    obtain⟨b,hb⟩:∃b,s[k].toNat=b:=⟨_,rfl⟩
    have hb1:b<256:=(by rw[<-hb];exact zce s k hlt);have hn':=qH (hn b hb);obtain⟨x,hx⟩:∃x,(adp p ((nums s).take k)).1=x:=⟨_,rfl⟩
    obtain⟨y,hy⟩:∃y,(adp p ((nums s).take k)).2=y:=⟨_,rfl⟩
    rw[hx] at q1 ⊢;rw[hy] at q2 ⊢;obtain⟨HX,HY⟩:=qh2 hx hy;clear hn hx hy;go_wp2_with fail
    go_round
    case rel=>exact⟨k+1,by omega,by go_num,congrArg (Value.int .u64) (by rw[hn'.o];simp only[z1X,HX.o];omega),congrArg (Value.int .u64) (by rw[hn'.o];simp only[z1X,HX.o,HY.o];omega)⟩
    case measure=>simp[intOf];omega
  · obtain rfl:k=s.size:=by omega
    rw[z7B] at q1 q2 ⊢;go_wp2_with (go_at_call 119;refine(whole_any _ _ _ q1 q2).mono ?_;rintro e w' ⟨rfl,rfl⟩);go_ret;exact⟨by rw[HV.o];rfl,rfl⟩
theorem z3u(s:ByteArray)(w:World)(hs:s.size<=maxLen):
 Calls prog 40 #[.string s] w λe w'=>e=.returned (.int .u32 (adl 1 s))/\w=w':=by
 go_enter func40,ntmps40;go_wp2_with (go_at_call 83;refine(zdI 1 s _ (by decide) hs).mono ?_;rintro e w' ⟨rfl,rfl⟩);go_ret;exact⟨rfl,rfl⟩
theorem z3Z(a:Nat)(s:ByteArray)(w:World)(h:a<z13)(hs:s.size<=maxLen):
 Calls prog 36 #[.int .u32 a,.string s] w λe w'=>e=.returned (.int .u32 (adl a s))/\w=w':=by
 have hs':s.size<=9223372036854775807:=(by unfold maxLen at hs;omega);have ha:a<=4294967295:=(by unfold z13 at h;omega);have HV:=qH (show adl a s=(adp (lo a,hi a) (nums s)).2*65536+(adp (lo a,hi a) (nums s)).1 from rfl);clear h;go_enter func36,ntmps36;have e1:(a:Int)%65536%65521=((lo a:Nat):Int):=(by unfold lo;omega);have e2:(a:Int) /65536%65521=((hi a:Nat):Int):=(by unfold hi;omega);obtain⟨E1,E2⟩:=qh2 e1 e2;clear e1 e2;go_wp2_with fail;rw[E1.o,E2.o];have hp1:=zha a;have hp2:=zhl a;obtain⟨p,hp⟩:∃p,p=(lo a,hi a):=⟨_,rfl⟩
 rw[<-hp] at HV;have e1:lo a=p.1:=(by rw[hp]);have e2:hi a=p.2:=(by rw[hp]);rw[e1,e2];rw[e1] at hp1;rw[e2] at hp2;clear hp e1 e2
 go_loop [5,6,7] (λx y i=> ∃k:Nat,k<=s.size/\i=.int .i64 k/\x=.int .i64 (adp p ((nums s).take k)).1/\y=.int .i64 (adp p ((nums s).take k)).2) (λ_ _ i=>s.size - (intOf i).toNat)
 case atStart=>exact⟨0,qZ,rfl,rfl,rfl⟩
 case round=>
  obtain⟨k,hk,rfl,rfl,rfl⟩:=hrel;obtain⟨q1,q2⟩:=z8j ((nums s).take k) p hp1 hp2;by_cases hlt:k<s.size
  · have hn:=λb hb=>z8i p s k b hlt hb
    obtain⟨b,hb⟩:∃b,s[k].toNat=b:=⟨_,rfl⟩
    have hb1:b<256:=(by rw[<-hb];exact zce s k hlt);have hn':=qH (hn b hb);obtain⟨x,hx⟩:∃x,(adp p ((nums s).take k)).1=x:=⟨_,rfl⟩
    obtain⟨y,hy⟩:∃y,(adp p ((nums s).take k)).2=y:=⟨_,rfl⟩
    rw[hx] at q1 ⊢;rw[hy] at q2 ⊢;obtain⟨HX,HY⟩:=qh2 hx hy;clear hn hx hy;go_wp2_with fail
    go_round
    case rel=>exact⟨k+1,by omega,by go_num,congrArg (Value.int .i64) (by rw[hn'.o];simp only[z1X,HX.o];omega),congrArg (Value.int .i64) (by rw[hn'.o];simp only[z1X,HX.o,HY.o];omega)⟩
    case measure=>simp[intOf];omega
  · obtain rfl:k=s.size:=by omega
    rw[z7B] at q1 q2 ⊢;generalize (adp p (nums s)).1=x at*;generalize (adp p (nums s)).2=y at*;go_wp2_with fail;go_ret;exact⟨by rw[HV.o];rfl,rfl⟩
