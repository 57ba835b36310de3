/- Texts of one place, one behind the other: MathT, MathU, MathQ, Lay, Frm, Ars, MathV, MathW. -/
import Derived.Laws.OwnMore
import Derived.Below
import Derived.Deep.AppendLies
import Derived.Deep.Draws
import Derived.Test.YtacelhaidcmbcaaGreatDoorProg
import Derived.WalkKit
import Derived.Lib.Hide
import Derived.Deep.OwnRows
import Derived.Deep.WholeRow
import Derived.Deep.MidRow
set_option linter.unusedVariables false
namespace Go.Proofs.YtacelhaidcmbcaaGreatDoor
open Go Go.RowKit
theorem qR{a:Nat}:a≤a:=Nat.le_refl a
theorem qF{p:Prop}[h:Decidable p](q:¬p):decide p=false:=decide_eq_false q
theorem q9T{p:Prop}[h:Decidable p](q:p):decide p=true:=decide_eq_true q
theorem qA{α:Type _}{x y:List α}:(x++y).length=x.length+y.length:=List.length_append
theorem qB{w:World}{a:Addr}{v:Value}(h:w.cell? a=some v):a.block<w.heap.size:=World.block_lt_of_cell? _ _ h
theorem qE{α:Type _}{l:List α}{i:Nat}(h:i<l.length):l[i]? =some l[i]:=List.getElem?_eq_getElem h
theorem qN{α:Type _}[BEq α][LawfulBEq α]{a b:α}:(a==b)=false↔a≠b:=beq_eq_false_iff_ne
theorem qK{a b c:Nat}(h:a≤b)(k:b≤c):a≤c:=Nat.le_trans h k
theorem qZ{n:Nat}:0≤n:=Nat.zero_le n
theorem qD{α:Type _}(x y z:List α):x++y++z=x++(y++z):=List.append_assoc x y z
theorem qC{α:Type _}{a:α}{x:List α}:(a::x).length=x.length+1:=List.length_cons
theorem qW{α:Type _}{xs:Array α}{i:Nat}{b:α}:xs[i]? =some b↔∃h:i<xs.size,xs[i]=b:=Array.getElem?_eq_some_iff
theorem qL{w:World}{o:Obj}:Below w.heap.size w (w.alloc o):=(Below.refl _ _).alloc qR o
end Go.Proofs.YtacelhaidcmbcaaGreatDoor
namespace Go.Proofs.YtacelhaidcmbcaaGreatDoor.M
inductive Th
 |lf (w s:Nat)
 |pk (a b:Th)
namespace Th
def wt:Th→Nat
 |lf w _=>w
 |pk a b=>a.wt+b.wt
def sy:Th→Nat
 |lf _ s=>s
 |pk _ _=>0
def cn(x:Nat):Th→Nat
 |lf _ s=>if s=x then 1 else 0
 |pk a b=>cn x a+cn x b
def hi:Th→Nat
 |lf _ _=>0
 |pk a b=>max a.hi b.hi+1
end Th
def ct(x:Nat):List Th→Nat
 |[]=>0
 |t::l=>t.cn x+ct x l
def pks:List Th→List Th
 |a::b::r=> .pk a b::pks r
 |_=> []
def mrg(L P:List Th):List Th:=match L,P with
 |[],P=>P
 |l::L,[]=>l::L
 |l::L,p::P=>if p.wt<l.wt then p::mrg (l::L) P else l::mrg L (p::P)
termination_by L.length+P.length
def row(L:List Th):Nat→List Th
 |0=> []
 |k+1=>mrg L (pks (row L k))
def nl(L P:List Th)(q:Nat):Nat:=match q,L,P with
 |0,_,_=>0
 |_,[],_=>0
 |q+1,l::L,[]=>min (q+1) (L.length+1)
 |q+1,l::L,p::P=>if p.wt<l.wt then nl (l::L) P q else nl L (p::P) q+1
def Up(l:List Th):Prop:=l.Pairwise fun a b=>a.wt≤b.wt
theorem z4U(P:List Th):mrg [] P=P:=by rw[mrg]
theorem z1p(L:List Th):mrg L []=L:=by cases L<;>rw[mrg]
theorem z1V(l p:Th)(L P:List Th):mrg (l::L) (p::P)=if p.wt<l.wt then p::mrg (l::L) P else l::mrg L (p::P):=by rw[mrg]
theorem z0r:∀ (L P:List Th),(mrg L P).length=L.length+P.length
 |[],P=>by rw[z4U];simp
 |l::L,[]=>by rw[z1p];simp
 |l::L,p::P=>by
  rw[z1V];split
  · rw[qC,z0r (l::L) P];simp only[qC];omega
  · rw[qC,z0r L (p::P)];simp only[qC];omega
termination_by L P=>L.length+P.length
theorem z4V(t:Th):∀ (L P:List Th),t∈mrg L P↔t∈L∨t∈P
 |[],P=>by rw[z4U];simp
 |l::L,[]=>by rw[z1p];simp
 |l::L,p::P=>by
  rw[z1V];split
  · rw[List.mem_cons,z4V t (l::L) P,List.mem_cons (b:=p),or_left_comm]
  · rw[List.mem_cons,z4V t L (p::P),List.mem_cons (b:=l),or_assoc]
termination_by L P=>L.length+P.length
theorem z0y:∀ (R:List Th),(pks R).length=R.length/2
 |[]=>rfl
 |[a]=>by simp[pks]
 |a::b::r=>by simp only[pks,qC];rw[z0y r];omega
theorem z6B(L:List Th):row L 1=L:=z1p L
theorem z48(L:List Th)(k:Nat):(row L (k+1)).length=L.length+(row L k).length/2:=by
 show(mrg L (pks (row L k))).length=_
 rw[z0r,z0y]
theorem z12(x:Nat):∀ (l r:List Th),ct x (l++r)=ct x l+ct x r
 |[],r=>by simp[ct]
 |t::l,r=>by simp only[List.cons_append,ct];rw[z12 x l r];omega
theorem zbT(x:Nat):∀ (R:List Th) (b:Nat),2*b≤R.length→ct x ((pks R).take b)=ct x (R.take (2*b))
 |_,0,_=>by simp[ct]
 |[],b+1,h=>by simp at h
 |[a],b+1,h=>by simp at h;omega
 |a::c::r,b+1,h=>by
  simp only[qC] at h;rw[show 2*(b+1)=2*b+1+1 by omega];simp only[pks,List.take_succ_cons,ct,Th.cn];rw[zbT x r b (by omega)];omega
theorem z6L(t:Th):∀ (R:List Th) (b:Nat),2*b≤R.length→t∈R.take (2*b)→∃u∈(pks R).take b,t.wt≤u.wt
 |_,0,_,h=>by simp at h
 |[],b+1,h,_=>by simp at h
 |[a],b+1,h,_=>by simp at h;omega
 |a::c::r,b+1,h,g=>by
  simp only[qC] at h;rw[show 2*(b+1)=2*b+1+1 by omega] at g;simp only[List.take_succ_cons,List.mem_cons] at g;simp only[pks,List.take_succ_cons];rcases g with rfl|rfl|g
  · exact⟨_,List.mem_cons_self,by simp only[Th.wt];omega⟩
  · exact⟨_,List.mem_cons_self,by simp only[Th.wt];omega⟩
  · obtain⟨u,hu,e⟩:=z6L t r b (by omega) g
    exact⟨u,List.mem_cons_of_mem _ hu,e⟩
theorem z3a(L P:List Th):nl L P 0=0:=by unfold nl;rfl
theorem z3b(P:List Th)(q:Nat):nl [] P q=0:=by cases q<;>simp[nl]
theorem z5V(L:List Th)(q:Nat):nl L [] q=min q L.length:=by
 cases q with
 |zero=>simp[nl]
 |succ q=>cases L<;>simp[nl]
theorem z2h(l p:Th)(L P:List Th)(q:Nat):nl (l::L) (p::P) (q+1)=if p.wt<l.wt then nl (l::L) P q else nl L (p::P) q+1:=by rw[nl]
theorem z95:∀ (L P:List Th) (q:Nat),nl L P q≤q
 |_,_,0=>by rw[z3a];omega
 |[],P,q+1=>by rw[z3b];omega
 |l::L,[],q+1=>by rw[z5V];omega
 |l::L,p::P,q+1=>by
  rw[z2h];split
  · have:=z95 (l::L) P q;omega
  · have:=z95 L (p::P) q;omega
theorem zaW:∀ (L P:List Th) (q:Nat),nl L P q≤L.length
 |_,_,0=>by rw[z3a];omega
 |[],P,q+1=>by rw[z3b];omega
 |l::L,[],q+1=>by rw[z5V];omega
 |l::L,p::P,q+1=>by
  rw[z2h];split
  · exact zaW (l::L) P q
  · have:=zaW L (p::P) q;simp only[qC];omega
theorem z6I:∀ (L P:List Th) (q:Nat),q≤L.length+P.length→q - nl L P q≤P.length
 |_,_,0,_=>by omega
 |[],P,q+1,h=>by rw[z3b];simp at h;omega
 |l::L,[],q+1,h=>by rw[z5V];simp at h;simp;omega
 |l::L,p::P,q+1,h=>by
  simp only[qC] at h;rw[z2h];split
  · have:=z6I (l::L) P q (by simp only[qC];omega);simp only[qC] at*;omega
  · have:=z6I L (p::P) q (by simp only[qC];omega);simp only[qC] at*;omega
theorem z5d(x:Nat):∀ (L P:List Th) (q:Nat),q≤L.length+P.length→ct x ((mrg L P).take q)=ct x (L.take (nl L P q))+ct x (P.take (q - nl L P q))
 |_,_,0,_=>by rw[z3a];simp[ct]
 |[],P,q+1,_=>by rw[z3b,z4U];simp[ct]
 |l::L,[],q+1,h=>by
  rw[z5V,z1p];simp only[qC,List.length_nil] at h;rw[Nat.min_eq_left (by simp only[qC];omega)];simp[ct]
 |l::L,p::P,q+1,h=>by
  simp only[qC] at h;rw[z2h,z1V];by_cases hc:p.wt<l.wt
  · rw[if_pos hc,if_pos hc]
    have h1:=z95 (l::L) P q;rw[show q+1 - nl (l::L) P q=(q - nl (l::L) P q)+1 by omega,List.take_succ_cons,List.take_succ_cons];simp only[ct];rw[z5d x (l::L) P q (by simp only[qC];omega)];omega
  · rw[if_neg hc,if_neg hc]
    have h1:=z95 L (p::P) q;rw[show q+1 - (nl L (p::P) q+1)=q - nl L (p::P) q by omega,List.take_succ_cons,List.take_succ_cons];simp only[ct];rw[z5d x L (p::P) q (by simp only[qC];omega)];omega
theorem z2L(t:Th):∀ (L P:List Th) (q:Nat),t∈L.take (nl L P q)→t∈(mrg L P).take q
 |_,_,0,h=>by rw[z3a] at h;simp at h
 |[],P,q+1,h=>by rw[z3b] at h;simp at h
 |l::L,[],q+1,h=>by
  rw[z5V] at h;rw[z1p];by_cases e:q+1≤(l::L).length
  · rwa [Nat.min_eq_left e] at h
  · rw[Nat.min_eq_right (by omega)] at h
    rw[List.take_of_length_le (by omega)]
    rwa [List.take_of_length_le qR] at h
 |l::L,p::P,q+1,h=>by
  rw[z2h] at h;rw[z1V];by_cases hc:p.wt<l.wt
  · rw[if_pos hc] at h;rw[if_pos hc,List.take_succ_cons]
    exact List.mem_cons_of_mem _ (z2L t (l::L) P q h)
  · rw[if_neg hc,List.take_succ_cons] at h;rw[if_neg hc,List.take_succ_cons]
    rcases List.mem_cons.1 h with rfl|h
    · exact List.mem_cons_self
    · exact List.mem_cons_of_mem _ (z2L t L (p::P) q h)
theorem z4P(u t:Th):∀ (L P:List Th) (q:Nat),Up L→L[nl L P q]? =some t→u∈P.take (q - nl L P q)→u.wt<t.wt
 |L,P,0,_,_,h=>by rw[z3a] at h;simp at h
 |[],P,q+1,_,h,_=>by simp at h
 |l::L,[],q+1,_,_,h=>by simp at h
 |l::L,p::P,q+1,hup,h,g=>by
  rw[z2h] at h g;by_cases hc:p.wt<l.wt
  · rw[if_pos hc] at h g
    have h1:=z95 (l::L) P q;rw[show q+1 - nl (l::L) P q=(q - nl (l::L) P q)+1 by omega,List.take_succ_cons] at g;rcases List.mem_cons.1 g with rfl|g
    · have:=List.mem_of_getElem? h
      rcases List.mem_cons.1 this with rfl|e
      · exact hc
      · have:=(List.pairwise_cons.1 hup).1 t e;omega
    · exact z4P u t (l::L) P q hup h g
  · rw[if_neg hc] at h g
    rw[show q+1 - (nl L (p::P) q+1)=q - nl L (p::P) q by omega] at g;rw[List.getElem?_cons_succ] at h;exact z4P u t L (p::P) q (List.pairwise_cons.1 hup).2 h g
def sm(f:Nat→Nat):Nat→Nat
 |0=>0
 |n+1=>sm f n+f n
theorem sm_congr{f g:Nat→Nat}:∀n,(∀i,i<n→f i=g i)→sm f n=sm g n
 |0,_=>rfl
 |n+1,h=>by simp only[sm];rw[sm_congr n (fun i hi=>h i (by omega)),h n (by omega)]
theorem z5G(f g:Nat→Nat):∀n,sm (fun i=>f i+g i) n=sm f n+sm g n
 |0=>rfl
 |n+1=>by simp only[sm];rw[z5G f g n];omega
theorem zeD(f:Nat→Nat)(c:Nat):∀n,sm (fun i=>f i*c) n=sm f n*c
 |0=>by simp[sm]
 |n+1=>by simp only[sm];rw[zeD f c n,Nat.add_mul]
theorem z2C(c:Nat):∀n,sm (fun _=>c) n=n*c
 |0=>by simp[sm]
 |n+1=>by simp only[sm];rw[z2C c n,Nat.succ_mul]
theorem z1H:∀n,sm (fun _=>0) n=0:=fun n=>by rw[z2C];simp
theorem za1(f:Nat→Nat→Nat)(m:Nat):∀k,sm (fun j=>sm (fun i=>f i j) m) k=sm (fun i=>sm (fun j=>f i j) k) m
 |0=>by simp only[sm];rw[z1H]
 |k+1=>by simp only[sm];rw[za1 f m k,z5G]
theorem zeC(w:Nat→Nat)(a:Nat):∀m,a≤m→sm (fun i=>if i<a then w i else 0) m=sm w a
 |0,h=>by obtain rfl:a=0:=by omega
          rfl
 |m+1,h=>by
  simp only[sm];by_cases e:a=m+1
  · subst e
    rw[if_pos (by omega)];simp only[sm];rw[sm_congr m (g:=w) (fun i hi=>if_pos (by omega))]
  · rw[zeC w a m (by omega),if_neg (by omega)];omega
def lvs(w g:Nat→Nat)(m:Nat):List Th:=(List.range m).map fun i=>Th.lf (w i) (g i)
def zjk(w:Nat→Nat)(m:Nat):Prop:=∀i j,i≤j→j<m→w i≤w j
theorem z05(w g:Nat→Nat)(m:Nat):(lvs w g m).length=m:=by unfold lvs;simp
theorem z4Y(w g:Nat→Nat)(m:Nat):lvs w g (m+1)=lvs w g m++[.lf (w m) (g m)]:=by unfold lvs;rw[List.range_succ];simp
theorem z81(w g:Nat→Nat){a m:Nat}(h:a≤m):(lvs w g m).take a=lvs w g a:=by
 unfold lvs;rw[←List.map_take,List.take_range,Nat.min_eq_left h]
theorem zeP{w g:Nat→Nat}{m:Nat}(h:zjk w m):Up (lvs w g m):=by
 unfold Up lvs;rw[List.pairwise_map];refine List.Pairwise.imp_of_mem ?_ (List.pairwise_lt_range (n:=m));intro a b ha hb hab;exact h a b (by omega) (List.mem_range.1 hb)
theorem zeQ{w g:Nat→Nat}{m i:Nat}(inj:∀i j,i<m→j<m→g i=g j→i=j)(hi:i<m):∀a,a≤m→ct (g i) (lvs w g a)=if i<a then 1 else 0
 |0,_=>by simp[lvs,ct]
 |a+1,h=>by
  rw[z4Y,z12,zeQ inj hi a (by omega)];simp only[ct,Th.cn];by_cases e:i=a
  · subst e;simp
  · have:g a≠g i:=fun q=>e (inj a i (by omega) hi q).symm
    rw[if_neg this];by_cases e2:i<a
    · rw[if_pos e2,if_pos (by omega)]
    · rw[if_neg e2,if_neg (by omega)]
theorem zb7{w g:Nat→Nat}{x:Nat}:∀m,(∀i,i<m→g i≠x)→ct x (lvs w g m)=0
 |0,_=>by simp[lvs,ct]
 |m+1,h=>by
  rw[z4Y,z12,zb7 m (fun i hi=>h i (by omega))];simp[ct,Th.cn,h m (by omega)]
section
variable {w g:Nat→Nat} {m:Nat}
def tl(L:List Th):Nat→Nat→Nat
 |0,_=>0
 |k+1,q=>nl L (pks (row L k)) q
def ln(L:List Th):Nat→Nat→Nat→Nat
 |0,_,_=>0
 |k+1,q,i=>(if i<tl L (k+1) q then 1 else 0)+ln L k (2*(q - tl L (k+1) q)) i
def wd(L:List Th):Nat→Nat→Nat→Nat
 |0,_,_=>0
 |k+1,q,i=>(if i<tl L (k+1) q then 2^k else 0)+wd L k (2*(q - tl L (k+1) q)) i
theorem z5x(L:List Th)(k q:Nat):tl L k q≤L.length:=by
 cases k with
 |zero=>simp[tl]
 |succ k=>exact zaW _ _ _
theorem ziL(L:List Th)(k q:Nat):tl L k q≤q:=by
 cases k with
 |zero=>simp[tl]
 |succ k=>exact z95 _ _ _
theorem z1F(L:List Th)(k q:Nat)(h:q≤(row L (k+1)).length):q - tl L (k+1) q≤(pks (row L k)).length∧2*(q - tl L (k+1) q)≤(row L k).length:=by
 have h1:q≤L.length+(pks (row L k)).length:=by rw[←z0r];exact h
 have h2:=z6I L (pks (row L k)) q h1;have h3:q - tl L (k+1) q≤(pks (row L k)).length:=h2;refine⟨h3,?_⟩;rw[z0y] at h3;omega
theorem zf3(inj:∀i j,i<m→j<m→g i=g j→i=j){i:Nat}(hi:i<m):∀k q,q≤(row (lvs w g m) k).length→ct (g i) ((row (lvs w g m) k).take q)=ln (lvs w g m) k q i
 |0,q,h=>by simp[row,ct,ln]
 |k+1,q,h=>by
  obtain⟨h1,h2⟩:=z1F _ k q h;have h4:=z5x (lvs w g m) (k+1) q;rw[z05] at h4;show ct (g i) ((mrg _ (pks _)).take q)=_
  rw[z5d _ _ _ _ (by rw[←z0r];exact h)];show ct (g i) ((lvs w g m).take (tl _ (k+1) q))+ct (g i) ((pks _).take (q - tl _ (k+1) q))=_
  rw[z81 _ _ h4,zeQ inj hi _ h4,zbT _ _ _ h2,zf3 inj hi k _ h2];rfl
theorem z76{x:Nat}(hx:∀i,i<m→g i≠x):∀k q,q≤(row (lvs w g m) k).length→ct x ((row (lvs w g m) k).take q)=0
 |0,q,h=>by simp[row,ct]
 |k+1,q,h=>by
  obtain⟨h1,h2⟩:=z1F _ k q h;have h4:=z5x (lvs w g m) (k+1) q;rw[z05] at h4;show ct x ((mrg _ (pks _)).take q)=_
  rw[z5d _ _ _ _ (by rw[←z0r];exact h)];show ct x ((lvs w g m).take (tl _ (k+1) q))+ct x ((pks _).take (q - tl _ (k+1) q))=_
  rw[z81 _ _ h4,zb7 _ (fun i hi=>hx i (by omega)),zbT _ _ _ h2,z76 hx k _ h2]
theorem zi5(L:List Th)(i:Nat):∀k q,ln L k q i≤k
 |0,q=>qR
 |k+1,q=>by
  have:=zi5 L i k (2*(q - tl L (k+1) q));simp only[ln];split<;>omega
theorem z9T{L:List Th}(hL:Up L)(k q:Nat)(h:q≤(row L (k+1)).length):tl L k (2*(q - tl L (k+1) q))≤tl L (k+1) q:=by
 cases k with
 |zero=>simp[tl]
 |succ k=>
  apply Nat.le_of_not_lt
  intro hlt;obtain⟨h1,h2⟩:=z1F L (k+1) q h;obtain⟨a,ha⟩:∃a,tl L (k+1+1) q=a:=⟨_,rfl⟩
  rw[ha] at h1 h2 hlt;have h3:=z5x L (k+1) (2*(q - a));have hal:a<L.length:=by omega
  have hm:L[a]∈L.take (nl L (pks (row L k)) (2*(q - a))):=by
   rw[List.mem_take_iff_getElem];exact⟨a,by rw[Nat.lt_min];exact⟨hlt,hal⟩,rfl⟩
  have hm2:=z2L _ _ _ _ hm;obtain⟨u,hu,hw⟩:=z6L (L[a]) (row L (k+1)) (q - a) h2 hm2
  have:=z4P u (L[a]) L (pks (row L (k+1))) q hL (by
   show L[tl L (k+1+1) q]? =_
   rw[ha];exact qE hal) (by
   show u∈(pks (row L (k+1))).take (q - tl L (k+1+1) q)
   rw[ha];exact hu)
  omega
theorem zbc{L:List Th}(hL:Up L){i:Nat}:∀k q,q≤(row L k).length→tl L k q≤i→ln L k q i=0
 |0,_,_,_=>rfl
 |k+1,q,h,hi=>by
  obtain⟨h1,h2⟩:=z1F L k q h;have:=z9T hL k q h;simp only[ln];rw[if_neg (by omega),zbc hL k _ h2 (by omega)]
theorem zhn{L:List Th}(hL:Up L)(i:Nat):∀k q,q≤(row L k).length→wd L k q i+2^(k - ln L k q i)=2^k
 |0,_,_=>by simp[wd]
 |k+1,q,h=>by
  obtain⟨h1,h2⟩:=z1F L k q h;have ih:=zhn hL i k _ h2;have hp:2^(k+1)=2^k+2^k:=by rw[Nat.pow_succ];omega
  simp only[wd,ln];by_cases e:i<tl L (k+1) q
  · rw[if_pos e,if_pos e,show k+1 - (1+ln L k (2*(q - tl L (k+1) q)) i)=k - ln L k (2*(q - tl L (k+1) q)) i by omega,hp];omega
  · have h0:=zbc hL k _ h2 (show tl L k (2*(q - tl L (k+1) q))≤i from qK (z9T hL k q h) (by omega))
    rw[h0] at ih ⊢;rw[if_neg e,if_neg e,hp];simp only[Nat.sub_zero,Nat.add_zero,Nat.zero_add] at ih ⊢;rw[hp];omega
theorem zhw(L:List Th):∀k q,q≤(row L k).length→2*sm (wd L k q) L.length=q*2^k
 |0,q,h=>by
  obtain rfl:q=0:=by simpa [row] using h
  have e:sm (wd L 0 0) L.length=sm (fun _=>0) L.length:=sm_congr _ (fun i _=>rfl);rw[e,z1H]
 |k+1,q,h=>by
  obtain⟨h1,h2⟩:=z1F L k q h;have ih:=zhw L k _ h2;have h4:=z5x L (k+1) q;have h5:=ziL L (k+1) q
  have e:sm (wd L (k+1) q) L.length=tl L (k+1) q*2^k+sm (wd L k (2*(q - tl L (k+1) q))) L.length:=by
   rw[←z2C (2^k),←zeC (fun _=>2^k) _ _ h4,←z5G];rfl
  rw[e,Nat.mul_add,ih,Nat.pow_succ];obtain⟨x,hx⟩:∃x,q=tl L (k+1) q+x:=⟨q - tl L (k+1) q,by omega⟩
  generalize tl L (k+1) q=a at*;subst hx;rw[show a+x - a=x by omega,Nat.add_mul];generalize 2^k=p;rw[show a*(p*2)=2*(a*p) by rw[Nat.mul_comm p,Nat.mul_left_comm],show x*(p*2)=2*x*p by rw[Nat.mul_comm p,Nat.mul_left_comm,Nat.mul_assoc]]
theorem zj6{L:List Th}(hL:Up L)(k:Nat)(h0:0<L.length)(h:2*L.length - 2≤(row L k).length):sm (fun i=>2^(k - ln L k (2*L.length - 2) i)) L.length=2^k:=by
 have h1:=zhw L k _ h
 have h2:sm (fun i=>wd L k (2*L.length - 2) i+2^(k - ln L k (2*L.length - 2) i)) L.length=L.length*2^k:=by
  rw[←z2C (2^k)];exact sm_congr _ (fun i _=>zhn hL i k _ h)
 rw[z5G] at h2;obtain⟨n,hn⟩:∃n,L.length=n+1:=⟨L.length - 1,by omega⟩
 rw[hn] at h1 h2 ⊢;rw[show 2*(n+1) - 2=2*n by omega] at h1 h2 ⊢;rw[Nat.add_mul,Nat.one_mul] at h2
 have h3:sm (wd L k (2*n)) (n+1)=n*2^k:=by
  have e:2*n*2^k=2*(n*2^k):=by rw[Nat.mul_assoc]
  omega
 have h4:sm (fun i=>wd L k (2*n) i) (n+1)=n*2^k:=h3;omega
theorem zez{L:List Th}(hL:Up L)(h2:2≤L.length):∀k,2*L.length - 2≤(row L k).length→tl L k (2*L.length - 2)=L.length
 |0,h=>by simp[row] at h;omega
 |k+1,h=>by
  obtain⟨g1,g2⟩:=z1F L k _ h;have g3:=z5x L (k+1) (2*L.length - 2);apply Nat.le_antisymm g3
  apply Nat.le_of_not_lt
  intro hlt;obtain⟨a,ha⟩:∃a,tl L (k+1) (2*L.length - 2)=a:=⟨_,rfl⟩
  rw[ha] at g1 g2 hlt;have ih:=zez hL h2 k (by omega);cases k with
  |zero=>simp[tl] at ih;omega
  |succ k=>
   have hm:L[a]∈L.take (nl L (pks (row L k)) (2*L.length - 2)):=by
    rw[List.mem_take_iff_getElem];exact⟨a,by rw[Nat.lt_min];exact⟨by show a<tl L (k+1) _;omega,hlt⟩,rfl⟩
   have hm2:=z2L _ _ _ _ hm;rw[show 2*L.length - 2=2*(L.length - 1) by omega] at hm2;obtain⟨u,hu,hw⟩:=z6L (L[a]) (row L (k+1)) (L.length - 1) (by omega) hm2
   have hu2:u∈(pks (row L (k+1))).take (2*L.length - 2 - a):=by
    have:(pks (row L (k+1))).take (L.length - 1)=((pks (row L (k+1))).take (2*L.length - 2 - a)).take (L.length - 1):=by
     rw[List.take_take,Nat.min_eq_left (by omega)]
    rw[this] at hu;exact List.mem_of_mem_take hu
   have:=z4P u (L[a]) L (pks (row L (k+1))) (2*L.length - 2) hL (by
    show L[tl L (k+1+1) _]? =_
    rw[ha];exact qE hlt) (by
    show u∈(pks (row L (k+1))).take (_ - tl L (k+1+1) _)
    rw[ha];exact hu2)
   omega
theorem zi4{L:List Th}(hL:Up L)(h2:2≤L.length){k i:Nat}(h:2*L.length - 2≤(row L k).length)(hi:i<L.length):1≤ln L k (2*L.length - 2) i:=by
 have:=zez hL h2 k h;cases k with
 |zero=>simp[tl] at this;omega
 |succ k=>simp only[ln];rw[this,if_pos hi];omega
theorem z7y(L:List Th):∀k j,L.length≤2^k*j→2*L.length≤(row L k).length+2*j
 |0,j,h=>by simp[row] at*;omega
 |k+1,j,h=>by
  have:=z7y L k (2*j) (by rw[Nat.pow_succ] at h;rwa [←Nat.mul_assoc]);rw[z48];omega
theorem z0x(L:List Th)(k:Nat)(h:L.length≤2^k):2*L.length - 2≤(row L k).length:=by
 have:=z7y L k 1 (by omega);omega
end
def cnt(l:Nat→Nat)(s:Nat):Nat→Nat
 |0=>0
 |k+1=>cnt l s k+if l k=s then 1 else 0
def wt(x:Nat):Nat:=if x=0 then 0 else 2^(15 - x)
def z03(l:Nat→Nat):Nat→Nat
 |0=>0
 |k+1=>z03 l k+wt (l k)
def c0(l:Nat→Nat)(n s:Nat):Nat:=if s=0 then 0 else cnt l s n
def aw(c:Nat→Nat):Nat→Nat
 |0=>0
 |s+1=>aw c s+c s*2^(15 - s)
def fs(c:Nat→Nat):Nat→Nat
 |0=>0
 |s+1=>(fs c s+c s)*2
def cod(l:Nat→Nat)(n i:Nat):Nat:=if l i=0 then 0 else fs (c0 l n) (l i)+cnt l (l i) i
def May(l:Nat→Nat)(n:Nat):Prop:=n≤320∧∀i,i<n→l i≤15
instance (l:Nat→Nat) (n:Nat):Decidable (May l n):=inferInstanceAs (Decidable (n≤320∧∀i,i<n→l i≤15))
def kind(l:Nat→Nat)(n:Nat):Nat:=if May l n then(if z03 l n=0 then 0 else if 32768<z03 l n then 4 else if z03 l n=32768 then 2 else if c0 l n 1=1∧z03 l n=16384 then 1 else 3) else 5
def erc(l:Nat→Nat)(n:Nat):Nat:=if kind l n=5 then 2 else if kind l n=4 then 7 else 0
def z7Q(l:Nat→Nat)(n:Nat):Nat:=if erc l n=0 then n else 0
theorem z2M{l:Nat→Nat}{n:Nat}(h:¬May l n):kind l n=5:=by unfold kind;rw[if_neg h]
theorem z2o{l:Nat→Nat}{n:Nat}(h:May l n):kind l n=if z03 l n=0 then 0 else if 32768<z03 l n then 4 else if z03 l n=32768 then 2 else if c0 l n 1=1∧z03 l n=16384 then 1 else 3:=by unfold kind;rw[if_pos h]
theorem zdN{l:Nat→Nat}{n:Nat}(h:kind l n≠5):May l n:=by
 apply Classical.byContradiction
 intro g;exact h (z2M g)
theorem z3e{l:Nat→Nat}{n:Nat}(h5:kind l n≠5)(h4:kind l n≠4):May l n∧z03 l n≤32768:=by
 have hm:=zdN h5;refine⟨hm,?_⟩;rw[z2o hm] at h4;by_cases h0:z03 l n=0
 · omega
 · rw[if_neg h0] at h4
   by_cases h1:32768<z03 l n
   · rw[if_pos h1] at h4;omega
   · omega
theorem zbZ(l:Nat→Nat)(s:Nat):∀k,cnt l s k≤k
 |0=>qR
 |k+1=>by
  have:=zbZ l s k;simp only[cnt];split<;>omega
theorem z5h(l:Nat→Nat)(s:Nat){j k:Nat}(h:j≤k):cnt l s j≤cnt l s k:=by
 induction k with
 |zero=>obtain rfl:j=0:=by omega
        exact qR
 |succ k ih=>
  by_cases e:j=k+1
  · subst e;exact qR
  · have:=ih (by omega)
    simp only[cnt];omega
theorem zim(l:Nat→Nat){i k:Nat}(h:i<k):cnt l (l i) i<cnt l (l i) k:=by
 have h1:cnt l (l i) (i+1)=cnt l (l i) i+1:=by simp[cnt]
 have h2:=z5h l (l i) (show i+1≤k from h);omega
theorem ziH(x:Nat):wt x≤16384:=by
 unfold wt;split
 · omega
 · exact Nat.pow_le_pow_right (by omega) (show 15 - x≤14 by omega)
theorem zhk{x:Nat}(h:x≠0):1≤wt x:=by unfold wt;rw[if_neg h];exact Nat.one_le_two_pow
theorem z5v(l:Nat→Nat):∀k,z03 l k≤k*16384
 |0=>by simp[z03]
 |k+1=>by have:=z5v l k;have:=ziH (l k);simp only[z03];omega
theorem z7c(l:Nat→Nat)(n s:Nat):c0 l n s≤n:=by unfold c0;split;omega;exact zbZ l s n
theorem z6l(l:Nat→Nat)(n:Nat):∀m,aw (c0 l (n+1)) m=aw (c0 l n) m+if l n<m then wt (l n) else 0
 |0=>by simp[aw]
 |m+1=>by
  simp only[aw];rw[z6l l n m]
  have hc:c0 l (n+1) m*2^(15 - m)=c0 l n m*2^(15 - m)+if l n=m then wt m else 0:=by
   unfold c0 wt;by_cases h0:m=0
   · rw[if_pos h0,if_pos h0,if_pos h0];split<;>simp
   · rw[if_neg h0,if_neg h0,if_neg h0]
     simp only[cnt]
     split
     · rw[Nat.add_mul,Nat.one_mul]
     · simp
  rw[hc];by_cases h1:l n<m
  · have h2:¬l n=m:=by omega
    have h3:l n<m+1:=by omega
    rw[if_pos h1,if_neg h2,if_pos h3];omega
  · by_cases h2:l n=m
    · have h3:l n<m+1:=by omega
      rw[if_neg h1,if_pos h2,if_pos h3,h2];omega
    · have h3:¬l n<m+1:=by omega
      rw[if_neg h1,if_neg h2,if_neg h3];omega
theorem zco(l:Nat→Nat):∀m,aw (c0 l 0) m=0
 |0=>rfl
 |m+1=>by simp only[aw];rw[zco l m];unfold c0;split<;>simp[cnt]
theorem z0l(l:Nat→Nat):∀n,(∀i,i<n→l i≤15)→aw (c0 l n) 16=z03 l n
 |0,_=>zco l 16
 |n+1,h=>by
  have h1:=h n (by omega);rw[z6l,if_pos (show l n<16 by omega),z0l l n (fun i hi=>h i (by omega))];rfl
theorem zh1(c:Nat→Nat){s t:Nat}(h:s≤t):aw c s≤aw c t:=by
 induction t with
 |zero=>obtain rfl:s=0:=by omega
        exact qR
 |succ t ih=>
  by_cases e:s=t+1
  · subst e;exact qR
  · have:=ih (by omega)
    simp only[aw];exact qK this (Nat.le_add_right _ _)
theorem zih(c:Nat→Nat):∀s,s≤15→fs c s*2^(15 - s)=aw c s
 |0,_=>by simp[fs,aw]
 |s+1,h=>by
  have h1:=zih c s (by omega);have h2:2^(15 - s)=2*2^(15 - (s+1)):=by rw[show 15 - s=(15 - (s+1))+1 by omega,Nat.pow_succ];omega
  simp only[fs,aw];rw[←h1,Nat.mul_assoc,←h2,Nat.add_mul]
theorem zig(c:Nat→Nat)(s:Nat)(h:s≤15):(fs c s+c s)*2^(15 - s)=aw c (s+1):=by
 rw[Nat.add_mul,zih c s h];rfl
theorem zgE{c:Nat→Nat}{s:Nat}(h:s≤15)(hw:aw c 16≤32768):fs c s+c s≤2^s:=by
 have h1:=zig c s h;have h2:=zh1 c (show s+1≤16 by omega)
 have h3:(fs c s+c s)*2^(15 - s)≤2^s*2^(15 - s):=by
  rw[h1,←Nat.pow_add,show s+(15 - s)=15 by omega];exact qK h2 hw
 exact Nat.le_of_mul_le_mul_right h3 (Nat.two_pow_pos _)
theorem z8b{c:Nat→Nat}(hc:∀s,s<16→c s≤320):∀s,s≤16→fs c s+640≤640*2^s
 |0,_=>by simp[fs]
 |s+1,h=>by
  have h1:=z8b hc s (by omega);have h2:=hc s (by omega);rw[Nat.pow_succ];simp only[fs];omega
theorem z8u{c:Nat→Nat}(hc:∀s,s<16→c s≤320):∀s,s≤16→aw c s≤s*10485760
 |0,_=>by simp[aw]
 |s+1,h=>by
  have h1:=z8u hc s (by omega);have h2:c s*2^(15 - s)≤320*2^15:=Nat.mul_le_mul (hc s (by omega)) (Nat.pow_le_pow_right (by omega) (by omega));simp only[aw];omega
def nz(l:Nat→Nat):Nat→Nat
 |0=>0
 |k+1=>nz l k+if l k=0 then 0 else 1
def lst(l:Nat→Nat):Nat→Nat
 |0=>0
 |k+1=>if l k=0 then lst l k else l k
theorem zhS(l:Nat→Nat):∀k,nz l k≤k
 |0=>qR
 |k+1=>by have:=zhS l k;simp only[nz];split<;>omega
theorem zeS{l:Nat→Nat}:∀k,(∀i,i<k→l i≤15)→lst l k≤15
 |0,_=>by simp[lst]
 |k+1,h=>by
  have h1:=zeS k (fun i hi=>h i (by omega));have h2:=h k (by omega);simp only[lst];split<;>omega
theorem z7T(l:Nat→Nat):∀k,cnt l 1 k≤nz l k∧16384*cnt l 1 k+(nz l k - cnt l 1 k)≤z03 l k∧(nz l k=0→z03 l k=0)∧(nz l k=1→z03 l k=wt (lst l k)∧cnt l 1 k=if lst l k=1 then 1 else 0)
 |0=>by simp[cnt,nz,z03]
 |k+1=>by
  obtain⟨h1,h2,h3,h4⟩:=z7T l k;by_cases h0:l k=0
  · have e:wt (l k)=0:=by unfold wt;rw[if_pos h0]
    have e1:¬l k=1:=by omega
    have e2:lst l (k+1)=lst l k:=by simp only[lst];rw[if_pos h0]
    rw[e2];simp only[cnt,nz,z03];rw[if_pos h0,if_neg e1,e];exact⟨h1,h2,h3,h4⟩
  · have hp:=zhk h0
    have e2:lst l (k+1)=l k:=by simp only[lst];rw[if_neg h0]
    rw[e2];by_cases e1:l k=1
    · have e:wt (l k)=16384:=by rw[e1];rfl
      simp only[cnt,nz,z03];rw[if_neg h0,if_pos e1,e];refine⟨by omega,by omega,by omega,fun g=> ?_⟩;have g0:nz l k=0:=by omega
      have g1:=h3 g0;exact⟨by omega,by omega⟩
    · simp only[cnt,nz,z03]
      rw[if_neg h0,if_neg e1];refine⟨by omega,by omega,by omega,fun g=> ?_⟩;have g0:nz l k=0:=by omega
      have g1:=h3 g0;exact⟨by omega,by omega⟩
theorem zdM{l:Nat→Nat}{n:Nat}(h:May l n):kind l n=if nz l n=0 then 0 else if 32768<z03 l n then 4 else if z03 l n=32768 then 2 else if nz l n=1∧lst l n=1 then 1 else 3:=by
 obtain⟨h1,h2,h3,h4⟩:=z7T l n;rw[z2o h];have e1:c0 l n 1=cnt l 1 n:=rfl;have i1:z03 l n=0↔nz l n=0:=⟨fun g=>by omega,h3⟩
 have i2:(c0 l n 1=1∧z03 l n=16384)↔(nz l n=1∧lst l n=1):=by
  rw[e1];constructor
  · rintro⟨a,b⟩
    have c:nz l n=1:=by omega
    refine⟨c,?_⟩;have d:=(h4 c).2;rw[a] at d
    split at d
    · assumption
    · omega
  · rintro⟨a,b⟩
    obtain⟨c,d⟩:=h4 a;rw[b] at c d;exact⟨by simpa using d,c⟩
 simp only[i1,i2]
theorem zil{l:Nat→Nat}{n i:Nat}(hm:May l n)(hw:z03 l n≤32768)(hi:i<n):cod l n i<2^l i∨l i=0:=by
 by_cases h0:l i=0
 · exact .inr h0
 · refine .inl ?_
   have h1:=hm.2 i hi;have h2:=zgE (c:=c0 l n) h1 (by rw[z0l l n hm.2];exact hw);have h3:=zim l hi;have h4:c0 l n (l i)=cnt l (l i) n:=by unfold c0;rw[if_neg h0]
   unfold cod;rw[if_neg h0];omega
theorem z5g{l:Nat→Nat}{n i:Nat}(hm:May l n)(hw:z03 l n≤32768)(hi:i<n):cod l n i<2^l i:=by
 rcases zil hm hw hi with h|h
 · exact h
 · unfold cod;rw[if_pos h,h];decide
theorem zbY{l:Nat→Nat}{n i:Nat}(hm:May l n)(hw:z03 l n≤32768)(hi:i<n):cod l n i<32768:=
 Nat.lt_of_lt_of_le (z5g hm hw hi) (Nat.pow_le_pow_right (by omega) (hm.2 i hi):2^l i≤2^15)
theorem zd9{l:Nat→Nat}{n m k:Nat}(hm:May l n)(hw:z03 l n≤32768)(h1:1≤m)(h15:m≤15)(hk:k≤n):fs (c0 l n) m+cnt l m k≤2^m:=by
 have h2:=zgE (c:=c0 l n) h15 (by rw[z0l l n hm.2];exact hw);have h3:=z5h l m hk;have h4:c0 l n m=cnt l m n:=by unfold c0;rw[if_neg (by omega)]
 omega
end Go.Proofs.YtacelhaidcmbcaaGreatDoor.M
namespace Go.Proofs.YtacelhaidcmbcaaGreatDoor.M
open Go Go.RowKit
def z09(w:World)(k:IntKind)(A:Option Addr)(n:Nat)(f:Nat→Int):Prop:=
 0<n→∃b o,A=some ⟨b,o,none⟩∧b<w.heap.size∧∀i,i<n→w.cell? ⟨b,o+i,none⟩=some (.int k (f i))
def zew(w:World)(A:Option Addr)(n:Nat)(f g:Nat→Nat):Prop:=
 0<n→∃b o,A=some ⟨b,o,none⟩∧b<w.heap.size∧∀i,i<n→w.cell? ⟨b,o+i*2,none⟩=some (.int .u32 (f i))∧w.cell? ⟨b,o+i*2+1,none⟩=some (.int .u8 (g i))
section
variable {w w':World} {k:IntKind} {A:Option Addr} {n:Nat} {f f':Nat→Int} {g h g' h':Nat→Nat}
theorem z09.below(H:z09 w k A n f)(hb:Below w.heap.size w w'):z09 w' k A n f:=fun hn=>by
 obtain⟨b,o,e,hlt,hc⟩:=H hn;exact⟨b,o,e,Nat.lt_of_lt_of_le hlt hb.size,fun i hi=>(hb.cell hlt).trans (hc i hi)⟩
theorem zew.nil(w:World)(A:Option Addr)(g h:Nat→Nat):zew w A 0 g h:=fun hn=>absurd hn (by omega)
theorem z09.congr(H:z09 w k A n f)(e:∀i,i<n→f i=f' i):z09 w k A n f':=fun hn=>by
 obtain⟨b,o,e1,hlt,hc⟩:=H hn;exact⟨b,o,e1,hlt,fun i hi=>by rw[hc i hi,e i hi]⟩
theorem z09.drewN(H:z09 w k A n f)(m:Nat):z09 (w.drewN m) k A n f:=H
theorem z00{B:Nat}(hb:Below B w w')(m:Nat):Below B w (w'.drewN m):=⟨hb.os,hb.tape,hb.output,hb.size,hb.block⟩
end
structure Kept(S:Nat→Prop)(w w':World):Prop where
 os:w'.os=w.os
 tape:w'.tape=w.tape
 output:w'.output=w.output
 size:w.heap.size≤w'.heap.size
 block:∀k,k<w.heap.size→¬S k→w'.heap[k]? =w.heap[k]?
def NoB:Nat→Prop:=fun _=>False
variable {S T U:Nat→Prop} {w w' w'':World}
theorem Kept.refl(S:Nat→Prop)(w:World):Kept S w w:=⟨rfl,rfl,rfl,qR,fun _ _ _=>rfl⟩
theorem Kept.trans(h:Kept S w w')(k:Kept T w' w'')(hT:∀j,T j→S j∨w.heap.size≤j):Kept S w w'':=
 ⟨k.os.trans h.os,k.tape.trans h.tape,k.output.trans h.output,qK h.size k.size,fun j hj hS=>
  (k.block j (Nat.lt_of_lt_of_le hj h.size) (fun ht=>by rcases hT j ht with g|g;exact hS g;omega)).trans (h.block j hj hS)⟩
theorem Kept.mono(h:Kept S w w')(hS:∀j,S j→T j):Kept T w w':=⟨h.os,h.tape,h.output,h.size,fun j hj hT=>h.block j hj (fun g=>hT (hS j g))⟩
theorem Kept.none(h:Kept NoB w w')(S:Nat→Prop):Kept S w w':=h.mono fun _ g=>g.elim
theorem Kept.drew(h:Kept S w w'):Kept S w w'.drew:=⟨h.os,h.tape,h.output,h.size,h.block⟩
theorem Kept.drewN(h:Kept S w w')(n:Nat):Kept S w (w'.drewN n):=⟨h.os,h.tape,h.output,h.size,h.block⟩
theorem Kept.alloc(h:Kept S w w')(o:Obj):Kept S w (w'.alloc o):=
 h.trans (T:=NoB) ⟨rfl,rfl,rfl,by simp,fun k hk _=>Below.heap_alloc _ _ _ hk⟩ (fun _ g=>g.elim)
theorem Kept.setCell(h:Kept S w w')(a:Addr)(ha:S a.block∨w.heap.size≤a.block)(u:Value):Kept S w (w'.setCell a u):=
 h.trans (T:=fun j=>j=a.block) ⟨rfl,rfl,rfl,by simp[World.setCell],fun k hk g=>Below.heap_setCell _ _ _ _ g⟩ (fun _ g=>by subst g;exact ha)
theorem Kept.grown(h:Kept S w w'){row:Option Nat}(hg:w'.grownBy w'' row)(hr:∀k,row=some k→S k∨w.heap.size≤k):Kept S w w'':=
 h.trans (T:=fun j=>row=some j) ⟨hg.os,hg.tape,hg.output,hg.size,fun k hk g=>hg.block k hk (fun e=>g e.symm)⟩ hr
theorem Kept.of_grown{row:Option Nat}(hg:w.grownBy w' row):Kept (fun j=>row=some j) w w':=(Kept.refl _ w).grown hg (fun k hk=> .inl hk)
theorem Kept.below(h:Kept S w w'){B:Nat}(hB:B≤w.heap.size)(hS:∀j,S j→B≤j):Below B w w':=
 ⟨h.os,h.tape,h.output,h.size,fun k hk=>h.block k (Nat.lt_of_lt_of_le hk hB) (fun g=>by have:=hS k g;omega)⟩
theorem Kept.of_below(h:Below w.heap.size w w'):Kept NoB w w':=⟨h.os,h.tape,h.output,h.size,fun k hk _=>h.block k hk⟩
theorem Kept.cell(h:Kept S w w'){a:Addr}{v:Value}(hc:w.cell? a=some v)(hS:¬S a.block):w'.cell? a=some v:=
 (World.cell?_of_block (h.block a.block (World.block_lt_of_cell? w a hc) hS)).trans hc
theorem Kept.frozen(h:Kept S w w'){a:Addr}(hk:a.block<w.heap.size)(hS:¬S a.block):w'.frozen? a=w.frozen? a:=World.frozen?_of_block (h.block a.block hk hS)
theorem z0c{B:Nat}{e:TypeId}{size n:Nat}{v:Value}{xs:List Value}(h:w.ownsRow B e size v n xs)(hb:∀g,v.ownBlock=some g→w'.heap[g]? =w.heap[g]?):w'.ownsRow B e size v n xs:=by
 obtain⟨h1,h2⟩:=h;refine⟨h1,?_⟩;rcases h2 with h2|⟨g,cap,cur,rfl,hg,hh,r⟩
 · exact .inl h2
 · exact .inr ⟨g,cap,cur,rfl,hg,by rw[hb g rfl];exact hh,r⟩
theorem Kept.own{B:Nat}{e:TypeId}{size n:Nat}{v:Value}{xs:List Value}(h:Kept S w w')(ho:w.ownsRow B e size v n xs)(hS:∀g,v.ownBlock=some g→¬S g):w'.ownsRow B e size v n xs:=
 z0c ho fun g hg=>h.block g (ho.lt g hg).2 (hS g hg)
end Go.Proofs.YtacelhaidcmbcaaGreatDoor.M
namespace Go.Proofs.YtacelhaidcmbcaaGreatDoor
open Go.RowKit M
def TL(f:Nat→Nat):List Value:=(List.range 16).map fun i=>Value.int .u32 (f i)
def TV(f:Nat→Nat):Array Value:=(TL f).toArray
theorem z3z(f:Nat→Nat):(TL f).length=16:=by unfold TL;rw[List.length_map,List.length_range]
theorem z1J(f:Nat→Nat):(TV f).size=16:=by unfold TV;rw[List.size_toArray,z3z]
theorem ziu(f:Nat→Nat)(i:Nat)(h:i<16):(TL f)[i]? =some (.int .u32 (f i)):=by
 unfold TL;rw[List.getElem?_map,List.getElem?_range h];rfl
theorem zh4(f:Nat→Nat)(i:Nat)(h:i<16):(TV f)[i]? =some (.int .u32 (f i)):=by
 unfold TV;rw[List.getElem?_toArray,ziu f i h]
theorem zit(f:Nat→Nat):∀v∈TL f,v.oneCell'=true:=by
 intro v hv;obtain⟨i,_,rfl⟩:=List.mem_map.1 hv;rfl
theorem zfk(f:Nat→Nat):(TV f).all (·.oneCell')=true:=all_oneCell_toArray (zit f)
def Tb(w:World)(b:Nat)(f:Nat→Nat):Prop:=w.rowIs b 250 16 (fun i=> .int .u32 (f i))
theorem Tb.row{w:World}{b:Nat}{f:Nat→Nat}(h:Tb w b f):w.heap[b]? =some (.cells (TV f) 250 (0,0)):=by
 obtain⟨c,hb,hn,hc⟩:=h;rw[hb];congr 2;apply Array.ext_getElem?
 intro i;by_cases hi:i<16
 · rw[hc i hi,zh4 f i hi]
 · rw[Array.getElem?_eq_none (by omega),Array.getElem?_eq_none (by rw[z1J];omega)]
theorem Tb.of_row{w:World}{b:Nat}{f:Nat→Nat}(h:w.heap[b]? =some (.cells (TV f) 250 (0,0))):Tb w b f:=⟨_,h,z1J f,fun i hi=>zh4 f i hi⟩
theorem Tb.range{w:World}{b:Nat}{f:Nat→Nat}(h:Tb w b f):w.rangeAt b 0 (TL f):=by
 intro j v hv;rw[Nat.zero_add];have hj:j<16:=by have:=(List.getElem?_eq_some_iff.1 hv).1;rwa [z3z] at this
 rw[World.rowIs.cell h hj];rw[ziu f j hj] at hv;exact hv
theorem Tb.cell{w:World}{b:Nat}{f:Nat→Nat}(h:Tb w b f){i:Nat}(hi:i<16):w.cell? ⟨b,i,none⟩=some (.int .u32 (f i)):=World.rowIs.cell h hi
theorem Tb.frozen{w:World}{b:Nat}{f:Nat→Nat}(h:Tb w b f)(i:Nat):w.frozen? ⟨b,i,none⟩=false:=World.rowIs.frozen h i
theorem Tb.congr{w:World}{b:Nat}{f g:Nat→Nat}(h:Tb w b f)(e:∀i,i<16→f i=g i):Tb w b g:=World.rowIs.congr h (fun i hi=>by rw[e i hi])
theorem Tb.set{w:World}{b:Nat}{f:Nat→Nat}(h:Tb w b f)(i v:Nat):Tb (w.setCell ⟨b,i,none⟩ (.int .u32 v)) b (fun j=>if j=i then v else f j):=
 World.rowIs.congr (World.rowIs.set h i (.int .u32 v)) (fun j hj=>by by_cases e:j=i<;>simp[e])
theorem Tb.alloc{w:World}{b:Nat}{f:Nat→Nat}(h:Tb w b f)(o:Obj):Tb (w.alloc o) b f:=World.rowIs.alloc h o
theorem Tb.other{w:World}{b:Nat}{f:Nat→Nat}(h:Tb w b f){a:Addr}(ha:b≠a.block)(v:Value):Tb (w.setCell a v) b f:=World.rowIs.setOther h ha v
theorem Tb.below{w w':World}{b B:Nat}{f:Nat→Nat}(h:Tb w b f)(hb:Below B w w')(hB:b<B):Tb w' b f:=World.rowIs.of_block h (hb.block b hB)
theorem Tb.made(w:World)(f:Nat→Nat):Tb (w.alloc (.cells (TV f) 250)) w.heap.size f:=Tb.of_row (heap_alloc_new w _)
theorem zcq:(Tryz.prog.info? 250).map (fun i=>(i.zero,i.size))=some (some (.agg (TV fun _=>0)),16):=by kernel_rfl
theorem z1c(w:World):(zeroValue 250).run Tryz.prog w=.ok (.agg (TV fun _=>0)) w:=(zero_of_info zcq).1 w
theorem zcp:(Tryz.prog.info? 250).map (·.size)=some 16:=(zero_of_info zcq).2
theorem z2R(f:Nat→Nat):(Tryz.prog.info? 250).map (·.size)=some (TV f).size:=by rw[z1J];exact zcp
theorem zes(f:Nat→Nat):(Tryz.prog.info? 250).map (·.size)=some (TL f).length:=by rw[z3z];exact zcp
variable {ops:Array Oper} {rest:List Oper} {op:Oper} {a:Act} {w:World} {Q:Exit→Act→World→Prop}
theorem z0n(x:Operand)(ho:op.op=.load 250 x)(hw:Region.wanted op (yielded ops a.tmps)=true)(b:Nat)(hx:a.eval x=.pointer (some ⟨b,0,none⟩))(f:Nat→Nat)(hT:Tb w b f)
 (h:wpList Tryz.prog ops Q rest (a.put op.dst (.agg (TV f))) w):wpList Tryz.prog ops Q (op::rest) a w:=
 wpList_step fun K hK=>by
  rw[if_pos hw];exact wp_load_mid 250 x ho b 0 hx (TL f) _ hT.range Tryz.underlying250 rfl (zes f) (hK _ _ h)
theorem z0q(hg:op.guard=none)(x y:Operand)(ho:op.op=.store 250 x y)(f g:Nat→Nat)(hx:a.eval x=.pointer (some ⟨w.heap.size,0,none⟩))(hy:a.eval y=.agg (TV g))
 (h:wpList Tryz.prog ops Q rest (a.put op.dst undef) (w.alloc (.cells (TV g) 250))):wpList Tryz.prog ops Q (op::rest) a (w.alloc (.cells (TV f) 250)):=
 wpList_plain hg fun K hK=>by
  refine wp_store_row 250 x y ho w.heap.size (TV g) hx hy 250 (TV f) (heap_alloc_new w _) (z2R g) (by rw[z1J,z1J]) (zfk g) ?_
  rw[World.setRow_alloc_new];exact hK _ _ h
theorem Tb.setRow{w:World}{b:Nat}{f:Nat→Nat}(h:Tb w b f)(g:Nat→Nat):Tb (w.setRow b (TV g)) b g:=Tb.of_row (setRow_heap w b _ _ _ _ h.row)
theorem below_setRow{B:Nat}{w0 w:World}(h:Below B w0 w)(b:Nat)(c:Array Value)(hb:B≤b):Below B w0 (w.setRow b c):=
 h.trans ⟨rfl,rfl,rfl,by simp[World.setRow],fun k hk=>by
  simp only[World.setRow,Array.getElem?_modify];rw[if_neg (by omega)]⟩
theorem z1A(hg:op.guard=none)(x y:Operand)(ho:op.op=.store 250 x y)(b:Nat)(f g:Nat→Nat)(hx:a.eval x=.pointer (some ⟨b,0,none⟩))(hy:a.eval y=.agg (TV g))(hT:Tb w b f)
 (h:wpList Tryz.prog ops Q rest (a.put op.dst undef) (w.setRow b (TV g))):wpList Tryz.prog ops Q (op::rest) a w:=
 wpList_plain hg fun K hK=>
  wp_store_row 250 x y ho b (TV g) hx hy 250 (TV f) hT.row (z2R g) (by rw[z1J,z1J]) (zfk g) (hK _ _ h)
theorem zjm(w:World)(f:Nat→Nat)(k:Nat)(hk:k<16):(Instr.index 250 (.agg (TV f)) (.int .i64 k)).run Tryz.prog w=.ok (.int .u32 (f k)) w:=by
 have h1:(0:Int)≤k∧(k:Int)<(16:Nat):=⟨by omega,by omega⟩;have h2:=zh4 f k hk;have hs:(sizeOf 126).run Tryz.prog w=.ok 1 w:=by kernel_rfl
 have hagg:(isAgg 126).run Tryz.prog w=.ok false w:=by kernel_rfl
 simp[Instr.index,asIntOf,run_underlying Tryz.underlying250,h1,hs,part,hagg,h2,Result.andThen];intro g;omega
end Go.Proofs.YtacelhaidcmbcaaGreatDoor
namespace Go.Proofs.YtacelhaidcmbcaaGreatDoor.M
def lx(p q:Nat×Nat):Prop:=p.1<q.1∨(p.1=q.1∧p.2<q.2)
theorem lx.trans{p q r:Nat×Nat}(h:lx p q)(k:lx q r):lx p r:=by unfold lx at*;omega
theorem lx.irr{p:Nat×Nat}(h:lx p p):False:=by unfold lx at h;omega
def Ord(e:Nat→Nat×Nat)(a b:Nat):Prop:=∀i j,a≤i→i<j→j<b→lx (e i) (e j)
def Rel(e:Nat→Nat×Nat)(a m b:Nat):Prop:=∀i j,a≤i→i<m→m≤j→j<b→(e i).1=(e j).1→(e i).2<(e j).2
structure z0O(e e':Nat→Nat×Nat)(a b:Nat):Prop where
 out:∀i,i<a∨b≤i→e' i=e i
 fro:∀i,a≤i→i<b→∃j,a≤j∧j<b∧e' i=e j
 to:∀i,a≤i→i<b→∃j,a≤j∧j<b∧e i=e' j
section
variable {e e' e'':Nat→Nat×Nat} {a b m c d i j k n:Nat}
theorem z0O.refl(e:Nat→Nat×Nat)(a b:Nat):z0O e e a b:=⟨fun _ _=>rfl,fun i h g=>⟨i,h,g,rfl⟩,fun i h g=>⟨i,h,g,rfl⟩⟩
theorem z0O.trans(h:z0O e e' a b)(k:z0O e' e'' a b):z0O e e'' a b:=by
 refine⟨fun i hi=>(k.out i hi).trans (h.out i hi),fun i h1 h2=> ?_,fun i h1 h2=> ?_⟩
 · obtain⟨j,j1,j2,q⟩:=k.fro i h1 h2
   obtain⟨l,l1,l2,r⟩:=h.fro j j1 j2;exact⟨l,l1,l2,q.trans r⟩
 · obtain⟨j,j1,j2,q⟩:=h.to i h1 h2
   obtain⟨l,l1,l2,r⟩:=k.to j j1 j2;exact⟨l,l1,l2,q.trans r⟩
theorem z0O.wide(h:z0O e e' a b)(hc:c≤a)(hd:b≤d):z0O e e' c d:=by
 refine⟨fun i hi=>h.out i (by omega),fun i h1 h2=> ?_,fun i h1 h2=> ?_⟩
 · by_cases q:a≤i∧i<b
   · obtain⟨j,j1,j2,r⟩:=h.fro i q.1 q.2
     exact⟨j,by omega,by omega,r⟩
   · exact⟨i,h1,h2,h.out i (by omega)⟩
 · by_cases q:a≤i∧i<b
   · obtain⟨j,j1,j2,r⟩:=h.to i q.1 q.2
     exact⟨j,by omega,by omega,r⟩
   · exact⟨i,h1,h2,(h.out i (by omega)).symm⟩
theorem Ord.sub(h:Ord e a b)(hc:a≤c)(hd:d≤b):Ord e c d:=fun i j h1 h2 h3=>h i j (by omega) h2 (by omega)
theorem Ord.congr(h:Ord e a b)(q:∀i,a≤i→i<b→e' i=e i):Ord e' a b:=fun i j h1 h2 h3=>by
 rw[q i h1 (by omega),q j (by omega) h3];exact h i j h1 h2 h3
theorem Ord.le(h:Ord e a b)(h1:a≤i)(h2:i≤j)(h3:j<b):e i=e j∨lx (e i) (e j):=by
 by_cases q:i=j
 · subst q;exact .inl rfl
 · exact .inr (h i j h1 (by omega) h3)
def swp(e:Nat→Nat×Nat)(i j t:Nat):Nat×Nat:=if t=i then e j else if t=j then e i else e t
def mvd(e:Nat→Nat×Nat)(j i t:Nat):Nat×Nat:=if t=j then e i else if j<t∧t≤i then e (t - 1) else e t
def mvu(e:Nat→Nat×Nat)(i k t:Nat):Nat×Nat:=if t=k then e i else if i≤t∧t<k then e (t+1) else e t
def swr(e:Nat→Nat×Nat)(a b n t:Nat):Nat×Nat:=if a≤t∧t<a+n then e (t - a+b) else if b≤t∧t<b+n then e (t - b+a) else e t
def rot(e:Nat→Nat×Nat)(a m b t:Nat):Nat×Nat:=if a≤t∧t<a+(b - m) then e (t - a+m) else if a+(b - m)≤t∧t<b then e (t - (a+(b - m))+a) else e t
theorem z4S(e:Nat→Nat×Nat)(i t:Nat):mvd e i i t=e t:=by
 unfold mvd;split
 · subst_vars;rfl
 · rw[if_neg (by omega)]
theorem z2G(e:Nat→Nat×Nat){j i:Nat}(h0:0<j)(h:j≤i)(t:Nat):swp (mvd e j i) j (j - 1) t=mvd e (j - 1) i t:=by
 unfold swp mvd;by_cases h1:t=j
 · subst h1
   rw[if_pos rfl,if_neg (by omega),if_neg (by omega),if_neg (by omega),if_pos (by omega)]
 · rw[if_neg h1]
   by_cases h2:t=j - 1
   · rw[if_pos h2,if_pos rfl,if_pos h2]
   · rw[if_neg h2,if_neg h1,if_neg h2]
     by_cases h3:j<t∧t≤i
     · rw[if_pos h3,if_pos (by omega)]
     · rw[if_neg h3,if_neg (by omega)]
theorem zdz(e:Nat→Nat×Nat)(i t:Nat):mvu e i i t=e t:=by
 unfold mvu;split
 · subst_vars;rfl
 · rw[if_neg (by omega)]
theorem zdy(e:Nat→Nat×Nat){i k:Nat}(h:i≤k)(t:Nat):swp (mvu e i k) k (k+1) t=mvu e i (k+1) t:=by
 unfold swp mvu;by_cases h1:t=k
 · subst h1
   rw[if_pos rfl,if_neg (by omega),if_neg (by omega),if_neg (by omega),if_pos (by omega)]
 · rw[if_neg h1]
   by_cases h2:t=k+1
   · rw[if_pos h2,if_pos rfl,if_pos h2]
   · rw[if_neg h2,if_neg h1,if_neg h2]
     by_cases h3:i≤t∧t<k
     · rw[if_pos h3,if_pos (by omega)]
     · rw[if_neg h3,if_neg (by omega)]
theorem zcP(e:Nat→Nat×Nat)(a b t:Nat):swr e a b 0 t=e t:=by
 unfold swr;rw[if_neg (by omega),if_neg (by omega)]
theorem zcO(e:Nat→Nat×Nat){a b k:Nat}(h:a+k<b)(t:Nat):swp (swr e a b k) (a+k) (b+k) t=swr e a b (k+1) t:=by
 unfold swp swr;by_cases h1:t=a+k
 · subst h1
   rw[if_pos rfl,if_neg (by omega),if_neg (by omega),if_pos (by omega)];congr 1;omega
 · rw[if_neg h1]
   by_cases h2:t=b+k
   · subst h2
     rw[if_pos rfl,if_neg (by omega),if_neg (by omega),if_neg (by omega),if_pos (by omega)];congr 1;omega
   · rw[if_neg h2]
     by_cases h3:a≤t∧t<a+k
     · rw[if_pos h3,if_pos (by omega)]
     · rw[if_neg h3,if_neg (show ¬(a≤t∧t<a+(k+1)) by omega)]
       by_cases h4:b≤t∧t<b+k
       · rw[if_pos h4,if_pos (by omega)]
       · rw[if_neg h4,if_neg (by omega)]
theorem zd5(e:Nat→Nat×Nat){m i j:Nat}(hi:i≤m)(h:j<i)(t:Nat):rot (swr e (m - i) m j) (m - (i - j)) m (m+j) t=rot e (m - i) m (m+j) t:=by
 unfold rot swr;by_cases h1:t<m - i
 · rw[if_neg (by omega),if_neg (by omega),if_neg (by omega),if_neg (by omega),if_neg (by omega),if_neg (by omega)]
 by_cases h2:t<m - i+j
 · rw[if_neg (by omega),if_neg (by omega),if_pos (by omega),if_pos (by omega)]
 by_cases h3:t<m - i+j+j
 · rw[if_pos (by omega),if_neg (by omega),if_pos (by omega),if_neg (by omega),if_pos (by omega)]
   congr 1;omega
 by_cases h4:t<m+j
 · rw[if_neg (by omega),if_pos (by omega),if_neg (by omega),if_neg (by omega),if_neg (by omega),if_pos (by omega)]
   congr 1;omega
 · rw[if_neg (by omega),if_neg (by omega),if_neg (by omega),if_neg (by omega),if_neg (by omega),if_neg (by omega)]
theorem zad(e:Nat→Nat×Nat){m i j:Nat}(hi:i≤m)(h:i<j)(t:Nat):rot (swr e (m - i) (m+j - i) i) (m - i) m (m+(j - i)) t=rot e (m - i) m (m+j) t:=by
 unfold rot swr;by_cases h1:t<m - i
 · rw[if_neg (by omega),if_neg (by omega),if_neg (by omega),if_neg (by omega),if_neg (by omega),if_neg (by omega)]
 by_cases h2:t<m - i+(j - i)
 · rw[if_pos (by omega),if_pos (show m - i≤t∧t<m - i+(m+j - m) by omega)]
   by_cases h5:t - (m - i)+m<m+j - i
   · rw[if_neg (by omega),if_neg (by omega)]
   · omega
 by_cases h3:t<m+(j - i)
 · rw[if_neg (by omega),if_pos (by omega),if_pos (by omega),if_pos (by omega)]
   congr 1;omega
 by_cases h4:t<m+j
 · rw[if_neg (by omega),if_neg (by omega),if_neg (by omega),if_pos (by omega),if_neg (by omega),if_pos (by omega)]
   congr 1;omega
 · rw[if_neg (by omega),if_neg (by omega),if_neg (by omega),if_neg (by omega),if_neg (by omega),if_neg (by omega)]
theorem zfY(e:Nat→Nat×Nat){m i:Nat}(hi:i≤m)(t:Nat):swr e (m - i) m i t=rot e (m - i) m (m+i) t:=by
 unfold rot swr;by_cases h1:t<m - i
 · rw[if_neg (by omega),if_neg (by omega),if_neg (by omega),if_neg (by omega)]
 by_cases h2:t<m
 · rw[if_pos (by omega),if_pos (by omega)]
 by_cases h3:t<m+i
 · rw[if_neg (by omega),if_pos (by omega),if_neg (by omega),if_pos (by omega)]
   congr 1;omega
 · rw[if_neg (by omega),if_neg (by omega),if_neg (by omega),if_neg (by omega)]
theorem z7D(e:Nat→Nat×Nat){a m b:Nat}(h:a≤m)(g:m≤b)(q:a=m∨m=b)(t:Nat):rot e a m b t=e t:=by
 unfold rot;by_cases h1:a≤t∧t<a+(b - m)
 · rw[if_pos h1];congr 1;omega
 · rw[if_neg h1]
   by_cases h2:a+(b - m)≤t∧t<b
   · rw[if_pos h2];congr 1;omega
   · rw[if_neg h2]
theorem z7C(e:Nat→Nat×Nat){a m b:Nat}(h:a≤m)(g:m≤b):z0O e (rot e a m b) a b:=by
 refine⟨fun i hi=> ?_,fun i h1 h2=> ?_,fun i h1 h2=> ?_⟩
 · unfold rot;rw[if_neg (by omega),if_neg (by omega)]
 · unfold rot
   by_cases q:i<a+(b - m)
   · rw[if_pos ⟨h1,q⟩];exact⟨_,by omega,by omega,rfl⟩
   · rw[if_neg (by omega),if_pos (by omega)];exact⟨_,by omega,by omega,rfl⟩
 · by_cases q:i<m
   · refine⟨i+(b - m),by omega,by omega,?_⟩
     unfold rot;rw[if_neg (by omega),if_pos (by omega)];congr 1;omega
   · refine⟨i - m+a,by omega,by omega,?_⟩
     unfold rot;rw[if_pos (by omega)];congr 1;omega
theorem z2H(e:Nat→Nat×Nat){a b j i:Nat}(h1:a≤j)(h2:j≤i)(h3:i<b):z0O e (mvd e j i) a b:=by
 refine⟨fun t ht=> ?_,fun t g1 g2=> ?_,fun t g1 g2=> ?_⟩
 · unfold mvd;rw[if_neg (by omega),if_neg (by omega)]
 · unfold mvd
   split
   · exact⟨i,by omega,h3,rfl⟩
   · split
     · exact⟨t - 1,by omega,by omega,rfl⟩
     · exact⟨t,g1,g2,rfl⟩
 · by_cases q:t=i
   · subst q;exact⟨j,h1,by omega,by unfold mvd;rw[if_pos rfl]⟩
   · by_cases r:j≤t∧t<i
     · exact⟨t+1,by omega,by omega,by unfold mvd;rw[if_neg (by omega),if_pos (by omega)];congr 1⟩
     · exact⟨t,g1,g2,by unfold mvd;rw[if_neg (by omega),if_neg (by omega)]⟩
theorem zdA(e:Nat→Nat×Nat){a b i k:Nat}(h1:a≤i)(h2:i≤k)(h3:k<b):z0O e (mvu e i k) a b:=by
 refine⟨fun t ht=> ?_,fun t g1 g2=> ?_,fun t g1 g2=> ?_⟩
 · unfold mvu;rw[if_neg (by omega),if_neg (by omega)]
 · unfold mvu
   split
   · exact⟨i,by omega,by omega,rfl⟩
   · split
     · exact⟨t+1,by omega,by omega,rfl⟩
     · exact⟨t,g1,g2,rfl⟩
 · by_cases q:t=i
   · subst q;exact⟨k,by omega,h3,by unfold mvu;rw[if_pos rfl]⟩
   · by_cases r:i<t∧t≤k
     · exact⟨t - 1,by omega,by omega,by unfold mvu;rw[if_neg (by omega),if_pos (by omega)];congr 1;omega⟩
     · exact⟨t,g1,g2,by unfold mvu;rw[if_neg (by omega),if_neg (by omega)]⟩
theorem z4T{e:Nat→Nat×Nat}{a m i:Nat}(h:Ord e a m)(hr:∀t,a≤t→t<m→(e t).1=(e m).1→(e t).2<(e m).2)(ha:a≤i)(hm:i≤m)
 (h1:∀t,i≤t→t<m→(e m).1<(e t).1) (h2:i=a∨(e (i - 1)).1≤(e m).1):Ord (mvd e i m) a (m+1):=by
 have lo:∀t,a≤t→t<i→lx (e t) (e m):=by
  intro t g1 g2
  have q:lx (e (i - 1)) (e m):=by
   have:=hr (i - 1) (by omega) (by omega);unfold lx;omega
  rcases h.le g1 (show t≤i - 1 by omega) (by omega) with r|r
  · rw[r];exact q
  · exact r.trans q
 have hi:∀t,i≤t→t<m→lx (e m) (e t):=fun t g1 g2=> .inl (h1 t g1 g2)
 intro x y g1 g2 g3;unfold mvd;by_cases hx:x=i
 · rw[if_pos hx,if_neg (by omega),if_pos (by omega)];exact hi _ (by omega) (by omega)
 · rw[if_neg hx]
   by_cases hy:y=i
   · rw[if_pos hy,if_neg (by omega)];exact lo _ g1 (by omega)
   · rw[if_neg hy]
     by_cases hx2:i<x∧x≤m
     · rw[if_pos hx2,if_pos (by omega)];exact h _ _ (by omega) (by omega) (by omega)
     · rw[if_neg hx2]
       by_cases hy2:i<y∧y≤m
       · rw[if_pos hy2];exact h _ _ g1 (by omega) (by omega)
       · rw[if_neg hy2];exact h _ _ g1 g2 (by omega)
theorem zgq{e:Nat→Nat×Nat}{a b i:Nat}(h:Ord e (a+1) b)(hr:∀t,a+1≤t→t<b→(e a).1=(e t).1→(e a).2<(e t).2)(ha:a+1≤i)(hb:i≤b)
 (h1:i=a+1∨(e (i - 1)).1<(e a).1) (h2:i=b∨(e a).1≤(e i).1):Ord (mvu e a (i - 1)) a b:=by
 have lo:∀t,a+1≤t→t<i→lx (e t) (e a):=by
  intro t g1 g2;have q:lx (e (i - 1)) (e a):=.inl (by omega);rcases h.le g1 (show t≤i - 1 by omega) (by omega) with r|r
  · rw[r];exact q
  · exact r.trans q
 have hi:∀t,i≤t→t<b→lx (e a) (e t):=by
  intro t g1 g2
  have q:lx (e a) (e i):=by
   have:=hr i (by omega) (by omega);unfold lx;omega
  rcases h.le (show a+1≤i by omega) g1 g2 with r|r
  · rw[←r];exact q
  · exact q.trans r
 intro x y g1 g2 g3;unfold mvu;by_cases hx:x=i - 1
 · rw[if_pos hx,if_neg (by omega),if_neg (by omega)];exact hi _ (by omega) (by omega)
 · rw[if_neg hx]
   by_cases hy:y=i - 1
   · rw[if_pos hy,if_pos (by omega)];exact lo _ (by omega) (by omega)
   · rw[if_neg hy]
     by_cases hx2:a≤x∧x<i - 1
     · rw[if_pos hx2]
       by_cases hy2:a≤y∧y<i - 1
       · rw[if_pos hy2];exact h _ _ (by omega) (by omega) (by omega)
       · rw[if_neg hy2];exact h _ _ (by omega) (by omega) (by omega)
     · rw[if_neg hx2,if_neg (by omega)];exact h _ _ (by omega) (by omega) (by omega)
theorem zbQ{e:Nat→Nat×Nat}{a m b s f d:Nat}(ol:Ord e a m)(or:Ord e m b)(hr:Rel e a m b)(h1:a≤s)(h2:s≤m)(h3:m≤f)(h4:f≤b)(hd:d=s+(f - m))
 (q1:s=a∨f=b∨(e (s - 1)).1≤(e f).1) (q2:f=m∨s=m∨(e (f - 1)).1<(e s).1):
 (Ord (rot e s m f) a s∧Ord (rot e s m f) s d∧Rel (rot e s m f) a s d)∧(Ord (rot e s m f) d f∧Ord (rot e s m f) f b∧Rel (rot e s m f) d f b)∧(∀i j,a≤i→i<d→d≤j→j<b→lx (rot e s m f i) (rot e s m f j)):=by
 have v1:∀t,t<s→rot e s m f t=e t:=fun t ht=>by unfold rot;rw[if_neg (by omega),if_neg (by omega)]
 have v2:∀t,s≤t→t<d→rot e s m f t=e (t - s+m):=fun t g1 g2=>by unfold rot;rw[if_pos (by omega)]
 have v3:∀t,d≤t→t<f→rot e s m f t=e (t - d+s):=fun t g1 g2=>by
  unfold rot;rw[if_neg (by omega),if_pos (by omega)];congr 1;omega
 have v4:∀t,f≤t→rot e s m f t=e t:=fun t ht=>by unfold rot;rw[if_neg (by omega),if_neg (by omega)]
 refine⟨⟨?_,?_,?_⟩,⟨?_,?_,?_⟩,?_⟩
 · intro i j g1 g2 g3;rw[v1 i (by omega),v1 j g3];exact ol i j g1 g2 (by omega)
 · intro i j g1 g2 g3;rw[v2 i g1 (by omega),v2 j (by omega) g3];exact or _ _ (by omega) (by omega) (by omega)
 · intro i j g1 g2 g3 g4;rw[v1 i g2,v2 j g3 g4];exact hr _ _ g1 (by omega) (by omega) (by omega)
 · intro i j g1 g2 g3;rw[v3 i g1 (by omega),v3 j (by omega) g3];exact ol _ _ (by omega) (by omega) (by omega)
 · intro i j g1 g2 g3;rw[v4 i g1,v4 j (by omega)];exact or _ _ (by omega) (by omega) (by omega)
 · intro i j g1 g2 g3 g4;rw[v3 i g1 g2,v4 j g3];exact hr _ _ (by omega) (by omega) (by omega) g4
 · intro i j g1 g2 g3 g4
   by_cases ci:i<s
   · rw[v1 i ci]
     by_cases cj:j<f
     · rw[v3 j g3 cj];exact ol _ _ g1 (by omega) (by omega)
     · rw[v4 j (by omega)]
       have k:lx (e (s - 1)) (e f):=by
        have:=hr (s - 1) f (by omega) (by omega) h3 (by omega);unfold lx;omega
       have k1:=ol.le g1 (show i≤s - 1 by omega) (by omega);have k2:=or.le h3 (show f≤j by omega) g4;rcases k1 with k1|k1<;>rcases k2 with k2|k2
       · rw[k1,←k2];exact k
       · rw[k1];exact k.trans k2
       · rw[←k2];exact k1.trans k
       · exact(k1.trans k).trans k2
   · rw[v2 i (by omega) g2]
     by_cases cj:j<f
     · rw[v3 j g3 cj]
       have k:lx (e (f - 1)) (e s):=.inl (by omega);have k1:=or.le (show m≤i - s+m by omega) (show i - s+m≤f - 1 by omega) (by omega);have k2:=ol.le h1 (show s≤j - d+s by omega) (show j - d+s<m by omega);rcases k1 with k1|k1<;>rcases k2 with k2|k2
       · rw[k1,←k2];exact k
       · rw[k1];exact k.trans k2
       · rw[←k2];exact k1.trans k
       · exact(k1.trans k).trans k2
     · rw[v4 j (by omega)];exact or _ _ (by omega) (by omega) g4
theorem z2N{e e1 e2:Nat→Nat×Nat}{a d b:Nat}(hx:∀i j,a≤i→i<d→d≤j→j<b→lx (e i) (e j))(s1:z0O e e1 a d)(s2:z0O e1 e2 d b)(o1:Ord e1 a d)(o2:Ord e2 d b):Ord e2 a b:=by
 intro i j g1 g2 g3;by_cases ci:i<d
 · by_cases cj:j<d
   · rw[s2.out i (by omega),s2.out j (by omega)];exact o1 i j g1 g2 cj
   · obtain⟨x,x1,x2,q⟩:=s1.fro i g1 ci
     obtain⟨y,y1,y2,r⟩:=s2.fro j (by omega) g3;rw[s2.out i (by omega),q,r,s1.out y (by omega)];exact hx x y x1 x2 y1 y2
 · exact o2 i j (by omega) g2 g3
theorem zgi{e e':Nat→Nat×Nat}{n n':Nat}(h:Ord e 0 n)(h':Ord e' 0 n')(q:∀i,i<n→∃j,j<n'∧e i=e' j)(q':∀i,i<n'→∃j,j<n∧e' i=e j):n=n'∧∀i,i<n→e i=e' i:=by
 have key:∀k,k≤n→k≤n'→∀i,i<k→e i=e' i:=by
  intro k
  induction k with
  |zero=>intro _ _ i hi;omega
  |succ k ih=>
   intro h1 h2 i hi;have ih':=ih (by omega) (by omega);by_cases c:i<k
   · exact ih' i c
   · obtain rfl:i=k:=by omega
     obtain⟨x,x1,x2⟩:=q i (by omega);obtain⟨y,y1,y2⟩:=q' i (by omega)
     have hx:i≤x:=by
      apply Nat.le_of_not_lt;intro hlt
      have:=h x i qZ hlt (by omega);rw[x2,ih' x hlt] at this;exact this.irr
     have hy:i≤y:=by
      apply Nat.le_of_not_lt;intro hlt
      have:=h' y i qZ hlt (by omega);rw[y2,←ih' y hlt] at this;exact this.irr
     rcases h'.le qZ hx x1 with r|r
     · rw[x2,←r]
     · rcases h.le qZ hy y1 with s|s
       · rw[s,←y2]
       · rw[←y2,x2] at s;exact(r.trans s).irr.elim
 have hn:¬n<n':=by
  intro hlt;obtain⟨y,y1,y2⟩:=q' n hlt;rw[key n qR (by omega) y y1] at y2;have:=h' y n qZ y1 hlt;rw[y2] at this;exact this.irr
 have hn':¬n'<n:=by
  intro hlt;obtain⟨y,y1,y2⟩:=q n' hlt;rw[←key n' (by omega) qR y y1] at y2;have:=h y n' qZ y1 hlt;rw[y2] at this;exact this.irr
 obtain rfl:n=n':=by omega
 exact⟨rfl,key n qR qR⟩
end
structure Mem(e e':Nat→Nat×Nat)(a b:Nat):Prop where
 fro:∀i,a≤i→i<b→∃j,a≤j∧j<b∧e' i=e j
 to:∀i,a≤i→i<b→∃j,a≤j∧j<b∧e i=e' j
def Inc(e:Nat→Nat×Nat)(n:Nat):Prop:=∀i j,i<j→j<n→(e i).2<(e j).2
def Blk(e0 e:Nat→Nat×Nat)(bs lo hi n:Nat):Prop:=∀p,lo≤p*bs→p*bs<hi→Ord e (p*bs) (min (p*bs+bs) n)∧Mem e0 e (p*bs) (min (p*bs+bs) n)
section
variable {e0 e e':Nat→Nat×Nat} {a b c d m n q bs:Nat}
theorem z0O.mem(h:z0O e e' a b):Mem e e' a b:=⟨h.fro,h.to⟩
theorem Mem.trans{e1 e2:Nat→Nat×Nat}(h:Mem e0 e1 a b)(k:Mem e1 e2 a b):Mem e0 e2 a b:=by
 refine⟨fun i h1 h2=> ?_,fun i h1 h2=> ?_⟩
 · obtain⟨j,j1,j2,q⟩:=k.fro i h1 h2
   obtain⟨l,l1,l2,r⟩:=h.fro j j1 j2;exact⟨l,l1,l2,q.trans r⟩
 · obtain⟨j,j1,j2,q⟩:=h.to i h1 h2
   obtain⟨l,l1,l2,r⟩:=k.to j j1 j2;exact⟨l,l1,l2,q.trans r⟩
theorem Mem.congr(h:Mem e0 e a b)(q:∀i,a≤i→i<b→e' i=e i):Mem e0 e' a b:=by
 refine⟨fun i h1 h2=> ?_,fun i h1 h2=> ?_⟩
 · rw[q i h1 h2];exact h.fro i h1 h2
 · obtain⟨j,j1,j2,r⟩:=h.to i h1 h2
   exact⟨j,j1,j2,r.trans (q j j1 j2).symm⟩
theorem Mem.join(h:Mem e0 e a b)(k:Mem e0 e b c)(h1:a≤b)(h2:b≤c):Mem e0 e a c:=by
 refine⟨fun i g1 g2=> ?_,fun i g1 g2=> ?_⟩
 · by_cases q:i<b
   · obtain⟨j,j1,j2,r⟩:=h.fro i g1 q;exact⟨j,j1,by omega,r⟩
   · obtain⟨j,j1,j2,r⟩:=k.fro i (by omega) g2;exact⟨j,by omega,j2,r⟩
 · by_cases q:i<b
   · obtain⟨j,j1,j2,r⟩:=h.to i g1 q;exact⟨j,j1,by omega,r⟩
   · obtain⟨j,j1,j2,r⟩:=k.to i (by omega) g2;exact⟨j,by omega,j2,r⟩
theorem Mem.of_eq(q:∀i,a≤i→i<b→e i=e0 i):Mem e0 e a b:=⟨fun i h1 h2=>⟨i,h1,h2,q i h1 h2⟩,fun i h1 h2=>⟨i,h1,h2,(q i h1 h2).symm⟩⟩
theorem zgs(hi:Inc e0 n)(h1:Mem e0 e a m)(h2:Mem e0 e m d)(hd:d≤n):Rel e a m d:=by
 intro i j g1 g2 g3 g4 _;obtain⟨x,x1,x2,q⟩:=h1.fro i g1 g2;obtain⟨y,y1,y2,r⟩:=h2.fro j g3 g4;rw[q,r];exact hi x y (by omega) (by omega)
theorem z8p(e0 e:Nat→Nat×Nat)(bs lo n:Nat):Blk e0 e bs lo 0 n:=fun p _ h=>absurd h (by omega)
theorem z2Q(h:Blk e0 e bs 0 a n)(ha:a=q*bs)(ho:Ord e' a (min (a+bs) n))(hs:∀t,t<a→e' t=e t)(hm:Mem e0 e' a (min (a+bs) n)):Blk e0 e' bs 0 (a+bs) n:=by
 intro p h1 h2;rcases Nat.lt_trichotomy p q with g|g|g
 · have h3:p*bs+bs≤a:=by
    have:=Nat.mul_le_mul_right bs (show p+1≤q from g);rw[Nat.succ_mul] at this;omega
   by_cases h0:bs=0
   · subst h0
     refine⟨fun i j k1 k2 k3=> ?_,fun i k1 k2=> ?_,fun i k1 k2=> ?_⟩<;>(rw[Nat.mul_zero] at*;omega)
   obtain⟨o,k⟩:=h p h1 (by omega);exact⟨o.congr (fun t k1 k2=>hs t (by omega)),k.congr (fun t k1 k2=>hs t (by omega))⟩
 · subst g;rw[←ha];exact⟨ho,hm⟩
 · have h3:=Nat.mul_le_mul_right bs (show q+1≤p from g)
   rw[Nat.succ_mul] at h3;omega
theorem zcg(h:Blk e0 e bs a n n)(ha:a=q*(2*bs))(hb:0<bs)(han:a<n):(Ord e a (min (a+bs) n)∧Mem e0 e a (min (a+bs) n))∧(a+bs<n→Ord e (a+bs) (min (a+2*bs) n)∧Mem e0 e (a+bs) (min (a+2*bs) n)):=by
 have h1:2*q*bs=a:=by rw[ha,Nat.mul_assoc 2,Nat.mul_left_comm 2 q bs]
 have h2:(2*q+1)*bs=a+bs:=by rw[Nat.succ_mul,h1]
 refine⟨?_,fun h3=> ?_⟩
 · have:=h (2*q) (by omega) (by omega)
   rwa [h1] at this
 · have:=h (2*q+1) (by omega) (by omega)
   rw[h2,show a+bs+bs=a+2*bs by omega] at this;exact this
theorem z6i(hd:Blk e0 e (2*bs) 0 a n)(ht:Blk e0 e bs a n n)(ha:a=q*(2*bs))(hb:0<bs)(hm:a+bs<n)(hi:d=min (a+2*bs) n)(ho:Ord e' a d)(hs:z0O e e' a d):
 Blk e0 e' (2*bs) 0 (a+2*bs) n∧Blk e0 e' bs (a+2*bs) n n:=by
 obtain⟨⟨_,m1⟩,k⟩:=zcg ht ha hb (by omega);obtain⟨_,m2⟩:=k hm;rw[Nat.min_eq_left (by omega)] at m1;rw[←hi] at m2;refine⟨z2Q hd ha (by rw[←hi];exact ho) (fun t g=>hs.out t (.inl g)) (by rw[←hi];exact(m1.join m2 (by omega) (by omega)).trans hs.mem),?_⟩;intro p h1 h2;obtain⟨o,k2⟩:=ht p (by omega) h2;exact⟨o.congr (fun t k1 k2=>hs.out t (.inr (by omega))),k2.congr (fun t k1 k2=>hs.out t (.inr (by omega)))⟩
theorem zcf(ht:Blk e0 e bs a n n)(ha:a=q*(2*bs))(hb:0<bs)(hm:a+bs<n)(hi:d=min (a+2*bs) n)(hc:Inc e0 n):Ord e a (a+bs)∧Ord e (a+bs) d∧Rel e a (a+bs) d:=by
 obtain⟨⟨o1,m1⟩,k⟩:=zcg ht ha hb (by omega);obtain⟨o2,m2⟩:=k hm;rw[Nat.min_eq_left (by omega)] at m1 o1;rw[←hi] at m2 o2;exact⟨o1,o2,zgs hc m1 m2 (by omega)⟩
theorem zei(hd:Blk e0 e (2*bs) 0 a n)(ht:Blk e0 e bs a n n)(ha:a=q*(2*bs))(hb:0<bs)(hm:¬a+bs<n)(han:a≤n):Blk e0 e (2*bs) 0 n n:=by
 by_cases g:a=n
 · subst g;exact hd
 · obtain⟨⟨o1,m1⟩,_⟩:=zcg ht ha hb (by omega)
   rw[Nat.min_eq_right (by omega)] at o1 m1;have:=z2Q hd ha (e':=e) (by rw[Nat.min_eq_right (by omega)];exact o1) (fun _ _=>rfl) (by rw[Nat.min_eq_right (by omega)];exact m1);intro p h1 h2;exact this p h1 (by omega)
theorem zgW(h:Blk e0 e bs 0 n n)(hb:n≤bs):Ord e 0 n∧Mem e0 e 0 n:=by
 by_cases g:n=0
 · subst g;exact⟨fun i j h1 h2 h3=>by omega,fun i h1 h2=>by omega,fun i h1 h2=>by omega⟩
 · have:=h 0 (by omega) (by omega)
   rw[Nat.zero_mul,Nat.zero_add,Nat.min_eq_right hb] at this;exact this
theorem z4o(h:Blk e0 e bs 0 (a+c) n)(hn:n≤a+c):Blk e0 e bs 0 n n:=fun p h1 h2=>h p h1 (by omega)
end
end Go.Proofs.YtacelhaidcmbcaaGreatDoor.M
