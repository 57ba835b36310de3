/- Texts of one place, one behind the other: MathT, MathU, MathQ, Lay, Frm, Ars, MathV, MathW, MathH. -/
import Derived.Laws.OwnMore
import Derived.Below
import Derived.Deep.AppendLies
import Derived.Deep.Draws
import Derived.Test.YtdpabanajgegjaaGreatDoorProg
import Derived.WalkKit
import Derived.Lib.Hide
import Derived.Deep.OwnRows
import Derived.Deep.WholeRow
import Derived.Deep.MidRow
set_option linter.unusedVariables false
namespace Go.Proofs.YtdpabanajgegjaaGreatDoor.M
inductive Th
 |lf (w s:Nat)
 |pk (a b:Th)
namespace Th
def wt:Th→Nat
 |lf w _=>w
 |pk a b=>a.wt+b.wt
def cn(x:Nat):Th→Nat
 |lf _ s=>if s=x then 1 else 0
 |pk a b=>cn x a+cn x b
def hi:Th→Nat
 |lf _ _=>0
 |pk a b=>max a.hi b.hi+1
end Th
def ct(x:Nat):List Th→Nat
 |[]=>0
 |t::l=>t.cn x+ct x l
def pks:List Th→List Th
 |a::b::r=> .pk a b::pks r
 |_=> []
def mrg(L P:List Th):List Th:=match L,P with
 |[],P=>P
 |l::L,[]=>l::L
 |l::L,p::P=>if p.wt<l.wt then p::mrg (l::L) P else l::mrg L (p::P)
termination_by L.length+P.length
def row(L:List Th):Nat→List Th
 |0=> []
 |k+1=>mrg L (pks (row L k))
def nl(L P:List Th)(q:Nat):Nat:=match q,L,P with
 |0,_,_=>0
 |_,[],_=>0
 |q+1,l::L,[]=>min (q+1) (L.length+1)
 |q+1,l::L,p::P=>if p.wt<l.wt then nl (l::L) P q else nl L (p::P) q+1
def Up(l:List Th):Prop:=l.Pairwise fun a b=>a.wt≤b.wt
theorem mrg_nil(P:List Th):mrg [] P=P:=by rw[mrg]
theorem mrg_nil'(L:List Th):mrg L []=L:=by cases L<;>rw[mrg]
theorem mrg_cons(l p:Th)(L P:List Th):mrg (l::L) (p::P)=if p.wt<l.wt then p::mrg (l::L) P else l::mrg L (p::P):=by rw[mrg]
theorem mrg_length:∀ (L P:List Th),(mrg L P).length=L.length+P.length
 |[],P=>by rw[mrg_nil];simp
 |l::L,[]=>by rw[mrg_nil'];simp
 |l::L,p::P=>by
  rw[mrg_cons];split
  · rw[List.length_cons,mrg_length (l::L) P];simp only[List.length_cons];omega
  · rw[List.length_cons,mrg_length L (p::P)];simp only[List.length_cons];omega
termination_by L P=>L.length+P.length
theorem mrg_mem(t:Th):∀ (L P:List Th),t∈mrg L P↔t∈L∨t∈P
 |[],P=>by rw[mrg_nil];simp
 |l::L,[]=>by rw[mrg_nil'];simp
 |l::L,p::P=>by
  rw[mrg_cons];split
  · rw[List.mem_cons,mrg_mem t (l::L) P,List.mem_cons (b:=p),or_left_comm]
  · rw[List.mem_cons,mrg_mem t L (p::P),List.mem_cons (b:=l),or_assoc]
termination_by L P=>L.length+P.length
theorem pks_length:∀ (R:List Th),(pks R).length=R.length/2
 |[]=>rfl
 |[a]=>by simp[pks]
 |a::b::r=>by simp only[pks,List.length_cons];rw[pks_length r];omega
theorem row_one(L:List Th):row L 1=L:=mrg_nil' L
theorem row_length(L:List Th)(k:Nat):(row L (k+1)).length=L.length+(row L k).length/2:=by
 show(mrg L (pks (row L k))).length=_
 rw[mrg_length,pks_length]
theorem ct_append(x:Nat):∀ (l r:List Th),ct x (l++r)=ct x l+ct x r
 |[],r=>by simp[ct]
 |t::l,r=>by simp only[List.cons_append,ct];rw[ct_append x l r];omega
theorem ct_pks(x:Nat):∀ (R:List Th) (b:Nat),2*b≤R.length→ct x ((pks R).take b)=ct x (R.take (2*b))
 |_,0,_=>by simp[ct]
 |[],b+1,h=>by simp at h
 |[a],b+1,h=>by simp at h;omega
 |a::c::r,b+1,h=>by
  simp only[List.length_cons] at h;rw[show 2*(b+1)=2*b+1+1 by omega];simp only[pks,List.take_succ_cons,ct,Th.cn];rw[ct_pks x r b (by omega)];omega
theorem mem_pks(t:Th):∀ (R:List Th) (b:Nat),2*b≤R.length→t∈R.take (2*b)→∃u∈(pks R).take b,t.wt≤u.wt
 |_,0,_,h=>by simp at h
 |[],b+1,h,_=>by simp at h
 |[a],b+1,h,_=>by simp at h;omega
 |a::c::r,b+1,h,g=>by
  simp only[List.length_cons] at h;rw[show 2*(b+1)=2*b+1+1 by omega] at g;simp only[List.take_succ_cons,List.mem_cons] at g;simp only[pks,List.take_succ_cons];rcases g with rfl|rfl|g
  · exact⟨_,List.mem_cons_self,by simp only[Th.wt];omega⟩
  · exact⟨_,List.mem_cons_self,by simp only[Th.wt];omega⟩
  · obtain⟨u,hu,e⟩:=mem_pks t r b (by omega) g
    exact⟨u,List.mem_cons_of_mem _ hu,e⟩
theorem nl_zero(L P:List Th):nl L P 0=0:=by unfold nl;rfl
theorem nl_none(P:List Th)(q:Nat):nl [] P q=0:=by cases q<;>simp[nl]
theorem nl_all(L:List Th)(q:Nat):nl L [] q=min q L.length:=by
 cases q with
 |zero=>simp[nl]
 |succ q=>cases L<;>simp[nl]
theorem nl_cons(l p:Th)(L P:List Th)(q:Nat):nl (l::L) (p::P) (q+1)=if p.wt<l.wt then nl (l::L) P q else nl L (p::P) q+1:=by rw[nl]
theorem nl_le:∀ (L P:List Th) (q:Nat),nl L P q≤q
 |_,_,0=>by rw[nl_zero];omega
 |[],P,q+1=>by rw[nl_none];omega
 |l::L,[],q+1=>by rw[nl_all];omega
 |l::L,p::P,q+1=>by
  rw[nl_cons];split
  · have:=nl_le (l::L) P q;omega
  · have:=nl_le L (p::P) q;omega
theorem nl_len:∀ (L P:List Th) (q:Nat),nl L P q≤L.length
 |_,_,0=>by rw[nl_zero];omega
 |[],P,q+1=>by rw[nl_none];omega
 |l::L,[],q+1=>by rw[nl_all];omega
 |l::L,p::P,q+1=>by
  rw[nl_cons];split
  · exact nl_len (l::L) P q
  · have:=nl_len L (p::P) q;simp only[List.length_cons];omega
theorem nl_rest:∀ (L P:List Th) (q:Nat),q≤L.length+P.length→q - nl L P q≤P.length
 |_,_,0,_=>by omega
 |[],P,q+1,h=>by rw[nl_none];simp at h;omega
 |l::L,[],q+1,h=>by rw[nl_all];simp at h;simp;omega
 |l::L,p::P,q+1,h=>by
  simp only[List.length_cons] at h;rw[nl_cons];split
  · have:=nl_rest (l::L) P q (by simp only[List.length_cons];omega);simp only[List.length_cons] at*;omega
  · have:=nl_rest L (p::P) q (by simp only[List.length_cons];omega);simp only[List.length_cons] at*;omega
theorem ct_take(x:Nat):∀ (L P:List Th) (q:Nat),q≤L.length+P.length→ct x ((mrg L P).take q)=ct x (L.take (nl L P q))+ct x (P.take (q - nl L P q))
 |_,_,0,_=>by rw[nl_zero];simp[ct]
 |[],P,q+1,_=>by rw[nl_none,mrg_nil];simp[ct]
 |l::L,[],q+1,h=>by
  rw[nl_all,mrg_nil'];simp only[List.length_cons,List.length_nil] at h;rw[Nat.min_eq_left (by simp only[List.length_cons];omega)];simp[ct]
 |l::L,p::P,q+1,h=>by
  simp only[List.length_cons] at h;rw[nl_cons,mrg_cons];by_cases hc:p.wt<l.wt
  · rw[if_pos hc,if_pos hc]
    have h1:=nl_le (l::L) P q;rw[show q+1 - nl (l::L) P q=(q - nl (l::L) P q)+1 by omega,List.take_succ_cons,List.take_succ_cons];simp only[ct];rw[ct_take x (l::L) P q (by simp only[List.length_cons];omega)];omega
  · rw[if_neg hc,if_neg hc]
    have h1:=nl_le L (p::P) q;rw[show q+1 - (nl L (p::P) q+1)=q - nl L (p::P) q by omega,List.take_succ_cons,List.take_succ_cons];simp only[ct];rw[ct_take x L (p::P) q (by simp only[List.length_cons];omega)];omega
theorem mem_take(t:Th):∀ (L P:List Th) (q:Nat),t∈L.take (nl L P q)→t∈(mrg L P).take q
 |_,_,0,h=>by rw[nl_zero] at h;simp at h
 |[],P,q+1,h=>by rw[nl_none] at h;simp at h
 |l::L,[],q+1,h=>by
  rw[nl_all] at h;rw[mrg_nil'];by_cases e:q+1≤(l::L).length
  · rwa [Nat.min_eq_left e] at h
  · rw[Nat.min_eq_right (by omega)] at h
    rw[List.take_of_length_le (by omega)]
    rwa [List.take_of_length_le (Nat.le_refl _)] at h
 |l::L,p::P,q+1,h=>by
  rw[nl_cons] at h;rw[mrg_cons];by_cases hc:p.wt<l.wt
  · rw[if_pos hc] at h;rw[if_pos hc,List.take_succ_cons]
    exact List.mem_cons_of_mem _ (mem_take t (l::L) P q h)
  · rw[if_neg hc,List.take_succ_cons] at h;rw[if_neg hc,List.take_succ_cons]
    rcases List.mem_cons.1 h with rfl|h
    · exact List.mem_cons_self
    · exact List.mem_cons_of_mem _ (mem_take t L (p::P) q h)
theorem pk_less(u t:Th):∀ (L P:List Th) (q:Nat),Up L→L[nl L P q]? =some t→u∈P.take (q - nl L P q)→u.wt<t.wt
 |L,P,0,_,_,h=>by rw[nl_zero] at h;simp at h
 |[],P,q+1,_,h,_=>by simp at h
 |l::L,[],q+1,_,_,h=>by simp at h
 |l::L,p::P,q+1,hup,h,g=>by
  rw[nl_cons] at h g;by_cases hc:p.wt<l.wt
  · rw[if_pos hc] at h g
    have h1:=nl_le (l::L) P q;rw[show q+1 - nl (l::L) P q=(q - nl (l::L) P q)+1 by omega,List.take_succ_cons] at g;rcases List.mem_cons.1 g with rfl|g
    · have:=List.mem_of_getElem? h
      rcases List.mem_cons.1 this with rfl|e
      · exact hc
      · have:=(List.pairwise_cons.1 hup).1 t e;omega
    · exact pk_less u t (l::L) P q hup h g
  · rw[if_neg hc] at h g
    rw[show q+1 - (nl L (p::P) q+1)=q - nl L (p::P) q by omega] at g;rw[List.getElem?_cons_succ] at h;exact pk_less u t L (p::P) q (List.pairwise_cons.1 hup).2 h g
def sm(f:Nat→Nat):Nat→Nat
 |0=>0
 |n+1=>sm f n+f n
theorem sm_congr{f g:Nat→Nat}:∀n,(∀i,i<n→f i=g i)→sm f n=sm g n
 |0,_=>rfl
 |n+1,h=>by simp only[sm];rw[sm_congr n (fun i hi=>h i (by omega)),h n (by omega)]
theorem sm_add(f g:Nat→Nat):∀n,sm (fun i=>f i+g i) n=sm f n+sm g n
 |0=>rfl
 |n+1=>by simp only[sm];rw[sm_add f g n];omega
theorem sm_mul(f:Nat→Nat)(c:Nat):∀n,sm (fun i=>f i*c) n=sm f n*c
 |0=>by simp[sm]
 |n+1=>by simp only[sm];rw[sm_mul f c n,Nat.add_mul]
theorem sm_const(c:Nat):∀n,sm (fun _=>c) n=n*c
 |0=>by simp[sm]
 |n+1=>by simp only[sm];rw[sm_const c n,Nat.succ_mul]
theorem sm_zero:∀n,sm (fun _=>0) n=0:=fun n=>by rw[sm_const];simp
theorem sm_swap(f:Nat→Nat→Nat)(m:Nat):∀k,sm (fun j=>sm (fun i=>f i j) m) k=sm (fun i=>sm (fun j=>f i j) k) m
 |0=>by simp only[sm];rw[sm_zero]
 |k+1=>by simp only[sm];rw[sm_swap f m k,sm_add]
theorem sm_pre(w:Nat→Nat)(a:Nat):∀m,a≤m→sm (fun i=>if i<a then w i else 0) m=sm w a
 |0,h=>by obtain rfl:a=0:=by omega
          rfl
 |m+1,h=>by
  simp only[sm];by_cases e:a=m+1
  · subst e
    rw[if_pos (by omega)];simp only[sm];rw[sm_congr m (g:=w) (fun i hi=>if_pos (by omega))]
  · rw[sm_pre w a m (by omega),if_neg (by omega)];omega
def lvs(w g:Nat→Nat)(m:Nat):List Th:=(List.range m).map fun i=>Th.lf (w i) (g i)
def Rise(w:Nat→Nat)(m:Nat):Prop:=∀i j,i≤j→j<m→w i≤w j
theorem lvs_length(w g:Nat→Nat)(m:Nat):(lvs w g m).length=m:=by unfold lvs;simp
theorem lvs_succ(w g:Nat→Nat)(m:Nat):lvs w g (m+1)=lvs w g m++[.lf (w m) (g m)]:=by unfold lvs;rw[List.range_succ];simp
theorem lvs_take(w g:Nat→Nat){a m:Nat}(h:a≤m):(lvs w g m).take a=lvs w g a:=by
 unfold lvs;rw[←List.map_take,List.take_range,Nat.min_eq_left h]
theorem lvs_up{w g:Nat→Nat}{m:Nat}(h:Rise w m):Up (lvs w g m):=by
 unfold Up lvs;rw[List.pairwise_map];refine List.Pairwise.imp_of_mem ?_ (List.pairwise_lt_range (n:=m));intro a b ha hb hab;exact h a b (by omega) (List.mem_range.1 hb)
theorem lvs_ct{w g:Nat→Nat}{m i:Nat}(inj:∀i j,i<m→j<m→g i=g j→i=j)(hi:i<m):∀a,a≤m→ct (g i) (lvs w g a)=if i<a then 1 else 0
 |0,_=>by simp[lvs,ct]
 |a+1,h=>by
  rw[lvs_succ,ct_append,lvs_ct inj hi a (by omega)];simp only[ct,Th.cn];by_cases e:i=a
  · subst e;simp
  · have:g a≠g i:=fun q=>e (inj a i (by omega) hi q).symm
    rw[if_neg this];by_cases e2:i<a
    · rw[if_pos e2,if_pos (by omega)]
    · rw[if_neg e2,if_neg (by omega)]
theorem lvs_ct0{w g:Nat→Nat}{x:Nat}:∀m,(∀i,i<m→g i≠x)→ct x (lvs w g m)=0
 |0,_=>by simp[lvs,ct]
 |m+1,h=>by
  rw[lvs_succ,ct_append,lvs_ct0 m (fun i hi=>h i (by omega))];simp[ct,Th.cn,h m (by omega)]
section
variable {w g:Nat→Nat} {m:Nat}
def tl(L:List Th):Nat→Nat→Nat
 |0,_=>0
 |k+1,q=>nl L (pks (row L k)) q
def ln(L:List Th):Nat→Nat→Nat→Nat
 |0,_,_=>0
 |k+1,q,i=>(if i<tl L (k+1) q then 1 else 0)+ln L k (2*(q - tl L (k+1) q)) i
def wd(L:List Th):Nat→Nat→Nat→Nat
 |0,_,_=>0
 |k+1,q,i=>(if i<tl L (k+1) q then 2^k else 0)+wd L k (2*(q - tl L (k+1) q)) i
theorem tl_len(L:List Th)(k q:Nat):tl L k q≤L.length:=by
 cases k with
 |zero=>simp[tl]
 |succ k=>exact nl_len _ _ _
theorem tl_le(L:List Th)(k q:Nat):tl L k q≤q:=by
 cases k with
 |zero=>simp[tl]
 |succ k=>exact nl_le _ _ _
theorem tl_rest(L:List Th)(k q:Nat)(h:q≤(row L (k+1)).length):q - tl L (k+1) q≤(pks (row L k)).length∧2*(q - tl L (k+1) q)≤(row L k).length:=by
 have h1:q≤L.length+(pks (row L k)).length:=by rw[←mrg_length];exact h
 have h2:=nl_rest L (pks (row L k)) q h1;have h3:q - tl L (k+1) q≤(pks (row L k)).length:=h2;refine⟨h3,?_⟩;rw[pks_length] at h3;omega
theorem ct_row(inj:∀i j,i<m→j<m→g i=g j→i=j){i:Nat}(hi:i<m):∀k q,q≤(row (lvs w g m) k).length→ct (g i) ((row (lvs w g m) k).take q)=ln (lvs w g m) k q i
 |0,q,h=>by simp[row,ct,ln]
 |k+1,q,h=>by
  obtain⟨h1,h2⟩:=tl_rest _ k q h;have h4:=tl_len (lvs w g m) (k+1) q;rw[lvs_length] at h4;show ct (g i) ((mrg _ (pks _)).take q)=_
  rw[ct_take _ _ _ _ (by rw[←mrg_length];exact h)];show ct (g i) ((lvs w g m).take (tl _ (k+1) q))+ct (g i) ((pks _).take (q - tl _ (k+1) q))=_
  rw[lvs_take _ _ h4,lvs_ct inj hi _ h4,ct_pks _ _ _ h2,ct_row inj hi k _ h2];rfl
theorem ct_row0{x:Nat}(hx:∀i,i<m→g i≠x):∀k q,q≤(row (lvs w g m) k).length→ct x ((row (lvs w g m) k).take q)=0
 |0,q,h=>by simp[row,ct]
 |k+1,q,h=>by
  obtain⟨h1,h2⟩:=tl_rest _ k q h;have h4:=tl_len (lvs w g m) (k+1) q;rw[lvs_length] at h4;show ct x ((mrg _ (pks _)).take q)=_
  rw[ct_take _ _ _ _ (by rw[←mrg_length];exact h)];show ct x ((lvs w g m).take (tl _ (k+1) q))+ct x ((pks _).take (q - tl _ (k+1) q))=_
  rw[lvs_take _ _ h4,lvs_ct0 _ (fun i hi=>hx i (by omega)),ct_pks _ _ _ h2,ct_row0 hx k _ h2]
theorem ln_le(L:List Th)(i:Nat):∀k q,ln L k q i≤k
 |0,q=>Nat.le_refl _
 |k+1,q=>by
  have:=ln_le L i k (2*(q - tl L (k+1) q));simp only[ln];split<;>omega
theorem tl_mono{L:List Th}(hL:Up L)(k q:Nat)(h:q≤(row L (k+1)).length):tl L k (2*(q - tl L (k+1) q))≤tl L (k+1) q:=by
 cases k with
 |zero=>simp[tl]
 |succ k=>
  apply Nat.le_of_not_lt
  intro hlt;obtain⟨h1,h2⟩:=tl_rest L (k+1) q h;obtain⟨a,ha⟩:∃a,tl L (k+1+1) q=a:=⟨_,rfl⟩
  rw[ha] at h1 h2 hlt;have h3:=tl_len L (k+1) (2*(q - a));have hal:a<L.length:=by omega
  have hm:L[a]∈L.take (nl L (pks (row L k)) (2*(q - a))):=by
   rw[List.mem_take_iff_getElem];exact⟨a,by rw[Nat.lt_min];exact⟨hlt,hal⟩,rfl⟩
  have hm2:=mem_take _ _ _ _ hm;obtain⟨u,hu,hw⟩:=mem_pks (L[a]) (row L (k+1)) (q - a) h2 hm2
  have:=pk_less u (L[a]) L (pks (row L (k+1))) q hL (by
   show L[tl L (k+1+1) q]? =_
   rw[ha];exact List.getElem?_eq_getElem hal) (by
   show u∈(pks (row L (k+1))).take (q - tl L (k+1+1) q)
   rw[ha];exact hu)
  omega
theorem ln_none{L:List Th}(hL:Up L){i:Nat}:∀k q,q≤(row L k).length→tl L k q≤i→ln L k q i=0
 |0,_,_,_=>rfl
 |k+1,q,h,hi=>by
  obtain⟨h1,h2⟩:=tl_rest L k q h;have:=tl_mono hL k q h;simp only[ln];rw[if_neg (by omega),ln_none hL k _ h2 (by omega)]
theorem wd_ln{L:List Th}(hL:Up L)(i:Nat):∀k q,q≤(row L k).length→wd L k q i+2^(k - ln L k q i)=2^k
 |0,_,_=>by simp[wd]
 |k+1,q,h=>by
  obtain⟨h1,h2⟩:=tl_rest L k q h;have ih:=wd_ln hL i k _ h2;have hp:2^(k+1)=2^k+2^k:=by rw[Nat.pow_succ];omega
  simp only[wd,ln];by_cases e:i<tl L (k+1) q
  · rw[if_pos e,if_pos e,show k+1 - (1+ln L k (2*(q - tl L (k+1) q)) i)=k - ln L k (2*(q - tl L (k+1) q)) i by omega,hp];omega
  · have h0:=ln_none hL k _ h2 (show tl L k (2*(q - tl L (k+1) q))≤i from Nat.le_trans (tl_mono hL k q h) (by omega))
    rw[h0] at ih ⊢;rw[if_neg e,if_neg e,hp];simp only[Nat.sub_zero,Nat.add_zero,Nat.zero_add] at ih ⊢;rw[hp];omega
theorem sm_wd(L:List Th):∀k q,q≤(row L k).length→2*sm (wd L k q) L.length=q*2^k
 |0,q,h=>by
  obtain rfl:q=0:=by simpa [row] using h
  have e:sm (wd L 0 0) L.length=sm (fun _=>0) L.length:=sm_congr _ (fun i _=>rfl);rw[e,sm_zero]
 |k+1,q,h=>by
  obtain⟨h1,h2⟩:=tl_rest L k q h;have ih:=sm_wd L k _ h2;have h4:=tl_len L (k+1) q;have h5:=tl_le L (k+1) q
  have e:sm (wd L (k+1) q) L.length=tl L (k+1) q*2^k+sm (wd L k (2*(q - tl L (k+1) q))) L.length:=by
   rw[←sm_const (2^k),←sm_pre (fun _=>2^k) _ _ h4,←sm_add];rfl
  rw[e,Nat.mul_add,ih,Nat.pow_succ];obtain⟨x,hx⟩:∃x,q=tl L (k+1) q+x:=⟨q - tl L (k+1) q,by omega⟩
  generalize tl L (k+1) q=a at*;subst hx;rw[show a+x - a=x by omega,Nat.add_mul];generalize 2^k=p;rw[show a*(p*2)=2*(a*p) by rw[Nat.mul_comm p,Nat.mul_left_comm],show x*(p*2)=2*x*p by rw[Nat.mul_comm p,Nat.mul_left_comm,Nat.mul_assoc]]
theorem kraft{L:List Th}(hL:Up L)(k:Nat)(h0:0<L.length)(h:2*L.length - 2≤(row L k).length):sm (fun i=>2^(k - ln L k (2*L.length - 2) i)) L.length=2^k:=by
 have h1:=sm_wd L k _ h
 have h2:sm (fun i=>wd L k (2*L.length - 2) i+2^(k - ln L k (2*L.length - 2) i)) L.length=L.length*2^k:=by
  rw[←sm_const (2^k)];exact sm_congr _ (fun i _=>wd_ln hL i k _ h)
 rw[sm_add] at h2;obtain⟨n,hn⟩:∃n,L.length=n+1:=⟨L.length - 1,by omega⟩
 rw[hn] at h1 h2 ⊢;rw[show 2*(n+1) - 2=2*n by omega] at h1 h2 ⊢;rw[Nat.add_mul,Nat.one_mul] at h2
 have h3:sm (wd L k (2*n)) (n+1)=n*2^k:=by
  have e:2*n*2^k=2*(n*2^k):=by rw[Nat.mul_assoc]
  omega
 have h4:sm (fun i=>wd L k (2*n) i) (n+1)=n*2^k:=h3;omega
theorem tl_top{L:List Th}(hL:Up L)(h2:2≤L.length):∀k,2*L.length - 2≤(row L k).length→tl L k (2*L.length - 2)=L.length
 |0,h=>by simp[row] at h;omega
 |k+1,h=>by
  obtain⟨g1,g2⟩:=tl_rest L k _ h;have g3:=tl_len L (k+1) (2*L.length - 2);apply Nat.le_antisymm g3
  apply Nat.le_of_not_lt
  intro hlt;obtain⟨a,ha⟩:∃a,tl L (k+1) (2*L.length - 2)=a:=⟨_,rfl⟩
  rw[ha] at g1 g2 hlt;have ih:=tl_top hL h2 k (by omega);cases k with
  |zero=>simp[tl] at ih;omega
  |succ k=>
   have hm:L[a]∈L.take (nl L (pks (row L k)) (2*L.length - 2)):=by
    rw[List.mem_take_iff_getElem];exact⟨a,by rw[Nat.lt_min];exact⟨by show a<tl L (k+1) _;omega,hlt⟩,rfl⟩
   have hm2:=mem_take _ _ _ _ hm;rw[show 2*L.length - 2=2*(L.length - 1) by omega] at hm2;obtain⟨u,hu,hw⟩:=mem_pks (L[a]) (row L (k+1)) (L.length - 1) (by omega) hm2
   have hu2:u∈(pks (row L (k+1))).take (2*L.length - 2 - a):=by
    have:(pks (row L (k+1))).take (L.length - 1)=((pks (row L (k+1))).take (2*L.length - 2 - a)).take (L.length - 1):=by
     rw[List.take_take,Nat.min_eq_left (by omega)]
    rw[this] at hu;exact List.mem_of_mem_take hu
   have:=pk_less u (L[a]) L (pks (row L (k+1))) (2*L.length - 2) hL (by
    show L[tl L (k+1+1) _]? =_
    rw[ha];exact List.getElem?_eq_getElem hlt) (by
    show u∈(pks (row L (k+1))).take (_ - tl L (k+1+1) _)
    rw[ha];exact hu2)
   omega
theorem ln_pos{L:List Th}(hL:Up L)(h2:2≤L.length){k i:Nat}(h:2*L.length - 2≤(row L k).length)(hi:i<L.length):1≤ln L k (2*L.length - 2) i:=by
 have:=tl_top hL h2 k h;cases k with
 |zero=>simp[tl] at this;omega
 |succ k=>simp only[ln];rw[this,if_pos hi];omega
theorem row_room(L:List Th):∀k j,L.length≤2^k*j→2*L.length≤(row L k).length+2*j
 |0,j,h=>by simp[row] at*;omega
 |k+1,j,h=>by
  have:=row_room L k (2*j) (by rw[Nat.pow_succ] at h;rwa [←Nat.mul_assoc]);rw[row_length];omega
theorem row_enough(L:List Th)(k:Nat)(h:L.length≤2^k):2*L.length - 2≤(row L k).length:=by
 have:=row_room L k 1 (by omega);omega
end
def cnt(l:Nat→Nat)(s:Nat):Nat→Nat
 |0=>0
 |k+1=>cnt l s k+if l k=s then 1 else 0
def wt(x:Nat):Nat:=if x=0 then 0 else 2^(15 - x)
def weight(l:Nat→Nat):Nat→Nat
 |0=>0
 |k+1=>weight l k+wt (l k)
def c0(l:Nat→Nat)(n s:Nat):Nat:=if s=0 then 0 else cnt l s n
def aw(c:Nat→Nat):Nat→Nat
 |0=>0
 |s+1=>aw c s+c s*2^(15 - s)
def fs(c:Nat→Nat):Nat→Nat
 |0=>0
 |s+1=>(fs c s+c s)*2
def cod(l:Nat→Nat)(n i:Nat):Nat:=if l i=0 then 0 else fs (c0 l n) (l i)+cnt l (l i) i
def May(l:Nat→Nat)(n:Nat):Prop:=n≤320∧∀i,i<n→l i≤15
instance (l:Nat→Nat) (n:Nat):Decidable (May l n):=inferInstanceAs (Decidable (n≤320∧∀i,i<n→l i≤15))
def kind(l:Nat→Nat)(n:Nat):Nat:=if May l n then(if weight l n=0 then 0 else if 32768<weight l n then 4 else if weight l n=32768 then 2 else if c0 l n 1=1∧weight l n=16384 then 1 else 3) else 5
def erc(l:Nat→Nat)(n:Nat):Nat:=if kind l n=5 then 2 else if kind l n=4 then 7 else 0
def outn(l:Nat→Nat)(n:Nat):Nat:=if erc l n=0 then n else 0
theorem kind_bad{l:Nat→Nat}{n:Nat}(h:¬May l n):kind l n=5:=by unfold kind;rw[if_neg h]
theorem kind_of{l:Nat→Nat}{n:Nat}(h:May l n):kind l n=if weight l n=0 then 0 else if 32768<weight l n then 4 else if weight l n=32768 then 2 else if c0 l n 1=1∧weight l n=16384 then 1 else 3:=by unfold kind;rw[if_pos h]
theorem kind_may{l:Nat→Nat}{n:Nat}(h:kind l n≠5):May l n:=by
 apply Classical.byContradiction
 intro g;exact h (kind_bad g)
theorem kind_le(l:Nat→Nat)(n:Nat):kind l n≤5:=by
 by_cases h:May l n
 · rw[kind_of h];repeat' split
   all_goals omega
 · rw[kind_bad h];omega
theorem kind_fits{l:Nat→Nat}{n:Nat}(h5:kind l n≠5)(h4:kind l n≠4):May l n∧weight l n≤32768:=by
 have hm:=kind_may h5;refine⟨hm,?_⟩;rw[kind_of hm] at h4;by_cases h0:weight l n=0
 · omega
 · rw[if_neg h0] at h4
   by_cases h1:32768<weight l n
   · rw[if_pos h1] at h4;omega
   · omega
theorem cnt_le(l:Nat→Nat)(s:Nat):∀k,cnt l s k≤k
 |0=>Nat.le_refl _
 |k+1=>by
  have:=cnt_le l s k;simp only[cnt];split<;>omega
theorem cnt_mono(l:Nat→Nat)(s:Nat){j k:Nat}(h:j≤k):cnt l s j≤cnt l s k:=by
 induction k with
 |zero=>obtain rfl:j=0:=by omega
        exact Nat.le_refl _
 |succ k ih=>
  by_cases e:j=k+1
  · subst e;exact Nat.le_refl _
  · have:=ih (by omega)
    simp only[cnt];omega
theorem cnt_lt(l:Nat→Nat){i k:Nat}(h:i<k):cnt l (l i) i<cnt l (l i) k:=by
 have h1:cnt l (l i) (i+1)=cnt l (l i) i+1:=by simp[cnt]
 have h2:=cnt_mono l (l i) (show i+1≤k from h);omega
theorem wt_le(x:Nat):wt x≤16384:=by
 unfold wt;split
 · omega
 · exact Nat.pow_le_pow_right (by omega) (show 15 - x≤14 by omega)
theorem wt_pos{x:Nat}(h:x≠0):1≤wt x:=by unfold wt;rw[if_neg h];exact Nat.one_le_two_pow
theorem weight_le(l:Nat→Nat):∀k,weight l k≤k*16384
 |0=>by simp[weight]
 |k+1=>by have:=weight_le l k;have:=wt_le (l k);simp only[weight];omega
theorem c0_le(l:Nat→Nat)(n s:Nat):c0 l n s≤n:=by unfold c0;split;omega;exact cnt_le l s n
theorem aw_succ_n(l:Nat→Nat)(n:Nat):∀m,aw (c0 l (n+1)) m=aw (c0 l n) m+if l n<m then wt (l n) else 0
 |0=>by simp[aw]
 |m+1=>by
  simp only[aw];rw[aw_succ_n l n m]
  have hc:c0 l (n+1) m*2^(15 - m)=c0 l n m*2^(15 - m)+if l n=m then wt m else 0:=by
   unfold c0 wt;by_cases h0:m=0
   · rw[if_pos h0,if_pos h0,if_pos h0];split<;>simp
   · rw[if_neg h0,if_neg h0,if_neg h0]
     simp only[cnt]
     split
     · rw[Nat.add_mul,Nat.one_mul]
     · simp
  rw[hc];by_cases h1:l n<m
  · have h2:¬l n=m:=by omega
    have h3:l n<m+1:=by omega
    rw[if_pos h1,if_neg h2,if_pos h3];omega
  · by_cases h2:l n=m
    · have h3:l n<m+1:=by omega
      rw[if_neg h1,if_pos h2,if_pos h3,h2];omega
    · have h3:¬l n<m+1:=by omega
      rw[if_neg h1,if_neg h2,if_neg h3];omega
theorem aw_none(l:Nat→Nat):∀m,aw (c0 l 0) m=0
 |0=>rfl
 |m+1=>by simp only[aw];rw[aw_none l m];unfold c0;split<;>simp[cnt]
theorem aw_weight(l:Nat→Nat):∀n,(∀i,i<n→l i≤15)→aw (c0 l n) 16=weight l n
 |0,_=>aw_none l 16
 |n+1,h=>by
  have h1:=h n (by omega);rw[aw_succ_n,if_pos (show l n<16 by omega),aw_weight l n (fun i hi=>h i (by omega))];rfl
theorem aw_mono(c:Nat→Nat){s t:Nat}(h:s≤t):aw c s≤aw c t:=by
 induction t with
 |zero=>obtain rfl:s=0:=by omega
        exact Nat.le_refl _
 |succ t ih=>
  by_cases e:s=t+1
  · subst e;exact Nat.le_refl _
  · have:=ih (by omega)
    simp only[aw];exact Nat.le_trans this (Nat.le_add_right _ _)
theorem fs_aw(c:Nat→Nat):∀s,s≤15→fs c s*2^(15 - s)=aw c s
 |0,_=>by simp[fs,aw]
 |s+1,h=>by
  have h1:=fs_aw c s (by omega);have h2:2^(15 - s)=2*2^(15 - (s+1)):=by rw[show 15 - s=(15 - (s+1))+1 by omega,Nat.pow_succ];omega
  simp only[fs,aw];rw[←h1,Nat.mul_assoc,←h2,Nat.add_mul]
theorem fs_end(c:Nat→Nat)(s:Nat)(h:s≤15):(fs c s+c s)*2^(15 - s)=aw c (s+1):=by
 rw[Nat.add_mul,fs_aw c s h];rfl
theorem fs_le{c:Nat→Nat}{s:Nat}(h:s≤15)(hw:aw c 16≤32768):fs c s+c s≤2^s:=by
 have h1:=fs_end c s h;have h2:=aw_mono c (show s+1≤16 by omega)
 have h3:(fs c s+c s)*2^(15 - s)≤2^s*2^(15 - s):=by
  rw[h1,←Nat.pow_add,show s+(15 - s)=15 by omega];exact Nat.le_trans h2 hw
 exact Nat.le_of_mul_le_mul_right h3 (Nat.two_pow_pos _)
theorem fs_small{c:Nat→Nat}(hc:∀s,s<16→c s≤320):∀s,s≤16→fs c s+640≤640*2^s
 |0,_=>by simp[fs]
 |s+1,h=>by
  have h1:=fs_small hc s (by omega);have h2:=hc s (by omega);rw[Nat.pow_succ];simp only[fs];omega
theorem aw_small{c:Nat→Nat}(hc:∀s,s<16→c s≤320):∀s,s≤16→aw c s≤s*10485760
 |0,_=>by simp[aw]
 |s+1,h=>by
  have h1:=aw_small hc s (by omega);have h2:c s*2^(15 - s)≤320*2^15:=Nat.mul_le_mul (hc s (by omega)) (Nat.pow_le_pow_right (by omega) (by omega));simp only[aw];omega
def nz(l:Nat→Nat):Nat→Nat
 |0=>0
 |k+1=>nz l k+if l k=0 then 0 else 1
def lst(l:Nat→Nat):Nat→Nat
 |0=>0
 |k+1=>if l k=0 then lst l k else l k
theorem nz_le(l:Nat→Nat):∀k,nz l k≤k
 |0=>Nat.le_refl _
 |k+1=>by have:=nz_le l k;simp only[nz];split<;>omega
theorem lst_le{l:Nat→Nat}:∀k,(∀i,i<k→l i≤15)→lst l k≤15
 |0,_=>by simp[lst]
 |k+1,h=>by
  have h1:=lst_le k (fun i hi=>h i (by omega));have h2:=h k (by omega);simp only[lst];split<;>omega
theorem nz_facts(l:Nat→Nat):∀k,cnt l 1 k≤nz l k∧16384*cnt l 1 k+(nz l k - cnt l 1 k)≤weight l k∧(nz l k=0→weight l k=0)∧(nz l k=1→weight l k=wt (lst l k)∧cnt l 1 k=if lst l k=1 then 1 else 0)
 |0=>by simp[cnt,nz,weight]
 |k+1=>by
  obtain⟨h1,h2,h3,h4⟩:=nz_facts l k;by_cases h0:l k=0
  · have e:wt (l k)=0:=by unfold wt;rw[if_pos h0]
    have e1:¬l k=1:=by omega
    have e2:lst l (k+1)=lst l k:=by simp only[lst];rw[if_pos h0]
    rw[e2];simp only[cnt,nz,weight];rw[if_pos h0,if_neg e1,e];exact⟨h1,h2,h3,h4⟩
  · have hp:=wt_pos h0
    have e2:lst l (k+1)=l k:=by simp only[lst];rw[if_neg h0]
    rw[e2];by_cases e1:l k=1
    · have e:wt (l k)=16384:=by rw[e1];rfl
      simp only[cnt,nz,weight];rw[if_neg h0,if_pos e1,e];refine⟨by omega,by omega,by omega,fun g=> ?_⟩;have g0:nz l k=0:=by omega
      have g1:=h3 g0;exact⟨by omega,by omega⟩
    · simp only[cnt,nz,weight]
      rw[if_neg h0,if_neg e1];refine⟨by omega,by omega,by omega,fun g=> ?_⟩;have g0:nz l k=0:=by omega
      have g1:=h3 g0;exact⟨by omega,by omega⟩
theorem kind_ref{l:Nat→Nat}{n:Nat}(h:May l n):kind l n=if nz l n=0 then 0 else if 32768<weight l n then 4 else if weight l n=32768 then 2 else if nz l n=1∧lst l n=1 then 1 else 3:=by
 obtain⟨h1,h2,h3,h4⟩:=nz_facts l n;rw[kind_of h];have e1:c0 l n 1=cnt l 1 n:=rfl;have i1:weight l n=0↔nz l n=0:=⟨fun g=>by omega,h3⟩
 have i2:(c0 l n 1=1∧weight l n=16384)↔(nz l n=1∧lst l n=1):=by
  rw[e1];constructor
  · rintro⟨a,b⟩
    have c:nz l n=1:=by omega
    refine⟨c,?_⟩;have d:=(h4 c).2;rw[a] at d
    split at d
    · assumption
    · omega
  · rintro⟨a,b⟩
    obtain⟨c,d⟩:=h4 a;rw[b] at c d;exact⟨by simpa using d,c⟩
 simp only[i1,i2]
theorem cod_lt{l:Nat→Nat}{n i:Nat}(hm:May l n)(hw:weight l n≤32768)(hi:i<n):cod l n i<2^l i∨l i=0:=by
 by_cases h0:l i=0
 · exact .inr h0
 · refine .inl ?_
   have h1:=hm.2 i hi;have h2:=fs_le (c:=c0 l n) h1 (by rw[aw_weight l n hm.2];exact hw);have h3:=cnt_lt l hi;have h4:c0 l n (l i)=cnt l (l i) n:=by unfold c0;rw[if_neg h0]
   unfold cod;rw[if_neg h0];omega
theorem cod_fit{l:Nat→Nat}{n i:Nat}(hm:May l n)(hw:weight l n≤32768)(hi:i<n):cod l n i<2^l i:=by
 rcases cod_lt hm hw hi with h|h
 · exact h
 · unfold cod;rw[if_pos h,h];decide
theorem cod_small{l:Nat→Nat}{n i:Nat}(hm:May l n)(hw:weight l n≤32768)(hi:i<n):cod l n i<32768:=
 Nat.lt_of_lt_of_le (cod_fit hm hw hi) (Nat.pow_le_pow_right (by omega) (hm.2 i hi):2^l i≤2^15)
theorem ref_next{l:Nat→Nat}{n m k:Nat}(hm:May l n)(hw:weight l n≤32768)(h1:1≤m)(h15:m≤15)(hk:k≤n):fs (c0 l n) m+cnt l m k≤2^m:=by
 have h2:=fs_le (c:=c0 l n) h15 (by rw[aw_weight l n hm.2];exact hw);have h3:=cnt_mono l m hk;have h4:c0 l n m=cnt l m n:=by unfold c0;rw[if_neg (by omega)]
 omega
end Go.Proofs.YtdpabanajgegjaaGreatDoor.M
namespace Go.Proofs.YtdpabanajgegjaaGreatDoor.M
open Go Go.RowKit
def Nums(w:World)(k:IntKind)(A:Option Addr)(n:Nat)(f:Nat→Int):Prop:=
 0<n→∃b o,A=some ⟨b,o,none⟩∧b<w.heap.size∧∀i,i<n→w.cell? ⟨b,o+i,none⟩=some (.int k (f i))
def Cods(w:World)(A:Option Addr)(n:Nat)(f g:Nat→Nat):Prop:=
 0<n→∃b o,A=some ⟨b,o,none⟩∧b<w.heap.size∧∀i,i<n→w.cell? ⟨b,o+i*2,none⟩=some (.int .u32 (f i))∧w.cell? ⟨b,o+i*2+1,none⟩=some (.int .u8 (g i))
section
variable {w w':World} {k:IntKind} {A:Option Addr} {n:Nat} {f f':Nat→Int} {g h g' h':Nat→Nat}
theorem Nums.below(H:Nums w k A n f)(hb:Below w.heap.size w w'):Nums w' k A n f:=fun hn=>by
 obtain⟨b,o,e,hlt,hc⟩:=H hn;exact⟨b,o,e,Nat.lt_of_lt_of_le hlt hb.size,fun i hi=>(hb.cell hlt).trans (hc i hi)⟩
theorem Cods.below(H:Cods w A n g h)(hb:Below w.heap.size w w'):Cods w' A n g h:=fun hn=>by
 obtain⟨b,o,e,hlt,hc⟩:=H hn;exact⟨b,o,e,Nat.lt_of_lt_of_le hlt hb.size,fun i hi=>⟨(hb.cell hlt).trans (hc i hi).1,(hb.cell hlt).trans (hc i hi).2⟩⟩
theorem Cods.nil(w:World)(A:Option Addr)(g h:Nat→Nat):Cods w A 0 g h:=fun hn=>absurd hn (by omega)
theorem Nums.congr(H:Nums w k A n f)(e:∀i,i<n→f i=f' i):Nums w k A n f':=fun hn=>by
 obtain⟨b,o,e1,hlt,hc⟩:=H hn;exact⟨b,o,e1,hlt,fun i hi=>by rw[hc i hi,e i hi]⟩
theorem below_drewN{B:Nat}(hb:Below B w w')(m:Nat):Below B w (w'.drewN m):=⟨hb.os,hb.tape,hb.output,hb.size,hb.block⟩
end
structure Kept(S:Nat→Prop)(w w':World):Prop where
 os:w'.os=w.os
 tape:w'.tape=w.tape
 output:w'.output=w.output
 size:w.heap.size≤w'.heap.size
 block:∀k,k<w.heap.size→¬S k→w'.heap[k]? =w.heap[k]?
def NoB:Nat→Prop:=fun _=>False
variable {S T U:Nat→Prop} {w w' w'':World}
theorem Kept.refl(S:Nat→Prop)(w:World):Kept S w w:=⟨rfl,rfl,rfl,Nat.le_refl _,fun _ _ _=>rfl⟩
theorem Kept.trans(h:Kept S w w')(k:Kept T w' w'')(hT:∀j,T j→S j∨w.heap.size≤j):Kept S w w'':=
 ⟨k.os.trans h.os,k.tape.trans h.tape,k.output.trans h.output,Nat.le_trans h.size k.size,fun j hj hS=>
  (k.block j (Nat.lt_of_lt_of_le hj h.size) (fun ht=>by rcases hT j ht with g|g;exact hS g;omega)).trans (h.block j hj hS)⟩
theorem Kept.mono(h:Kept S w w')(hS:∀j,S j→T j):Kept T w w':=⟨h.os,h.tape,h.output,h.size,fun j hj hT=>h.block j hj (fun g=>hT (hS j g))⟩
theorem Kept.none(h:Kept NoB w w')(S:Nat→Prop):Kept S w w':=h.mono fun _ g=>g.elim
theorem Kept.drew(h:Kept S w w'):Kept S w w'.drew:=⟨h.os,h.tape,h.output,h.size,h.block⟩
theorem Kept.drewN(h:Kept S w w')(n:Nat):Kept S w (w'.drewN n):=⟨h.os,h.tape,h.output,h.size,h.block⟩
theorem Kept.alloc(h:Kept S w w')(o:Obj):Kept S w (w'.alloc o):=
 h.trans (T:=NoB) ⟨rfl,rfl,rfl,by simp,fun k hk _=>Below.heap_alloc _ _ _ hk⟩ (fun _ g=>g.elim)
theorem Kept.setCell(h:Kept S w w')(a:Addr)(ha:S a.block∨w.heap.size≤a.block)(u:Value):Kept S w (w'.setCell a u):=
 h.trans (T:=fun j=>j=a.block) ⟨rfl,rfl,rfl,by simp[World.setCell],fun k hk g=>Below.heap_setCell _ _ _ _ g⟩ (fun _ g=>by subst g;exact ha)
theorem Kept.grown(h:Kept S w w'){row:Option Nat}(hg:w'.grownBy w'' row)(hr:∀k,row=some k→S k∨w.heap.size≤k):Kept S w w'':=
 h.trans (T:=fun j=>row=some j) ⟨hg.os,hg.tape,hg.output,hg.size,fun k hk g=>hg.block k hk (fun e=>g e.symm)⟩ hr
theorem Kept.of_grown{row:Option Nat}(hg:w.grownBy w' row):Kept (fun j=>row=some j) w w':=(Kept.refl _ w).grown hg (fun k hk=> .inl hk)
theorem Kept.below(h:Kept S w w'){B:Nat}(hB:B≤w.heap.size)(hS:∀j,S j→B≤j):Below B w w':=
 ⟨h.os,h.tape,h.output,h.size,fun k hk=>h.block k (Nat.lt_of_lt_of_le hk hB) (fun g=>by have:=hS k g;omega)⟩
theorem Kept.of_below(h:Below w.heap.size w w'):Kept NoB w w':=⟨h.os,h.tape,h.output,h.size,fun k hk _=>h.block k hk⟩
theorem Kept.cell(h:Kept S w w'){a:Addr}{v:Value}(hc:w.cell? a=some v)(hS:¬S a.block):w'.cell? a=some v:=
 (World.cell?_of_block (h.block a.block (World.block_lt_of_cell? w a hc) hS)).trans hc
theorem Kept.frozen(h:Kept S w w'){a:Addr}(hk:a.block<w.heap.size)(hS:¬S a.block):w'.frozen? a=w.frozen? a:=World.frozen?_of_block (h.block a.block hk hS)
theorem ownsRow_at{B:Nat}{e:TypeId}{size n:Nat}{v:Value}{xs:List Value}(h:w.ownsRow B e size v n xs)(hb:∀g,v.ownBlock=some g→w'.heap[g]? =w.heap[g]?):w'.ownsRow B e size v n xs:=by
 obtain⟨h1,h2⟩:=h;refine⟨h1,?_⟩;rcases h2 with h2|⟨g,cap,cur,rfl,hg,hh,r⟩
 · exact .inl h2
 · exact .inr ⟨g,cap,cur,rfl,hg,by rw[hb g rfl];exact hh,r⟩
end Go.Proofs.YtdpabanajgegjaaGreatDoor.M
namespace Go.Proofs.YtdpabanajgegjaaGreatDoor
open Go.RowKit M
def TL(f:Nat→Nat):List Value:=(List.range 16).map fun i=>Value.int .u32 (f i)
def TV(f:Nat→Nat):Array Value:=(TL f).toArray
theorem TL_length(f:Nat→Nat):(TL f).length=16:=by unfold TL;rw[List.length_map,List.length_range]
theorem TV_size(f:Nat→Nat):(TV f).size=16:=by unfold TV;rw[List.size_toArray,TL_length]
theorem TL_at(f:Nat→Nat)(i:Nat)(h:i<16):(TL f)[i]? =some (.int .u32 (f i)):=by
 unfold TL;rw[List.getElem?_map,List.getElem?_range h];rfl
theorem TV_at(f:Nat→Nat)(i:Nat)(h:i<16):(TV f)[i]? =some (.int .u32 (f i)):=by
 unfold TV;rw[List.getElem?_toArray,TL_at f i h]
theorem TL_one(f:Nat→Nat):∀v∈TL f,v.oneCell'=true:=by
 intro v hv;obtain⟨i,_,rfl⟩:=List.mem_map.1 hv;rfl
theorem TV_one(f:Nat→Nat):(TV f).all (·.oneCell')=true:=all_oneCell_toArray (TL_one f)
def Tb(w:World)(b:Nat)(f:Nat→Nat):Prop:=w.rowIs b 292 16 (fun i=> .int .u32 (f i))
theorem Tb.row{w:World}{b:Nat}{f:Nat→Nat}(h:Tb w b f):w.heap[b]? =some (.cells (TV f) 292 (0,0)):=by
 obtain⟨c,hb,hn,hc⟩:=h;rw[hb];congr 2;apply Array.ext_getElem?
 intro i;by_cases hi:i<16
 · rw[hc i hi,TV_at f i hi]
 · rw[Array.getElem?_eq_none (by omega),Array.getElem?_eq_none (by rw[TV_size];omega)]
theorem Tb.of_row{w:World}{b:Nat}{f:Nat→Nat}(h:w.heap[b]? =some (.cells (TV f) 292 (0,0))):Tb w b f:=⟨_,h,TV_size f,fun i hi=>TV_at f i hi⟩
theorem Tb.range{w:World}{b:Nat}{f:Nat→Nat}(h:Tb w b f):w.rangeAt b 0 (TL f):=by
 intro j v hv;rw[Nat.zero_add];have hj:j<16:=by have:=(List.getElem?_eq_some_iff.1 hv).1;rwa [TL_length] at this
 rw[World.rowIs.cell h hj];rw[TL_at f j hj] at hv;exact hv
theorem Tb.cell{w:World}{b:Nat}{f:Nat→Nat}(h:Tb w b f){i:Nat}(hi:i<16):w.cell? ⟨b,i,none⟩=some (.int .u32 (f i)):=World.rowIs.cell h hi
theorem Tb.frozen{w:World}{b:Nat}{f:Nat→Nat}(h:Tb w b f)(i:Nat):w.frozen? ⟨b,i,none⟩=false:=World.rowIs.frozen h i
theorem Tb.congr{w:World}{b:Nat}{f g:Nat→Nat}(h:Tb w b f)(e:∀i,i<16→f i=g i):Tb w b g:=World.rowIs.congr h (fun i hi=>by rw[e i hi])
theorem Tb.set{w:World}{b:Nat}{f:Nat→Nat}(h:Tb w b f)(i v:Nat):Tb (w.setCell ⟨b,i,none⟩ (.int .u32 v)) b (fun j=>if j=i then v else f j):=
 World.rowIs.congr (World.rowIs.set h i (.int .u32 v)) (fun j hj=>by by_cases e:j=i<;>simp[e])
theorem Tb.alloc{w:World}{b:Nat}{f:Nat→Nat}(h:Tb w b f)(o:Obj):Tb (w.alloc o) b f:=World.rowIs.alloc h o
theorem Tb.other{w:World}{b:Nat}{f:Nat→Nat}(h:Tb w b f){a:Addr}(ha:b≠a.block)(v:Value):Tb (w.setCell a v) b f:=World.rowIs.setOther h ha v
theorem Tb.below{w w':World}{b B:Nat}{f:Nat→Nat}(h:Tb w b f)(hb:Below B w w')(hB:b<B):Tb w' b f:=World.rowIs.of_block h (hb.block b hB)
theorem Tb.made(w:World)(f:Nat→Nat):Tb (w.alloc (.cells (TV f) 292)) w.heap.size f:=Tb.of_row (heap_alloc_new w _)
theorem arrInfo:(Tryz.prog.info? 292).map (fun i=>(i.zero,i.size))=some (some (.agg (TV fun _=>0)),16):=by kernel_rfl
theorem arrZero(w:World):(zeroValue 292).run Tryz.prog w=.ok (.agg (TV fun _=>0)) w:=(zero_of_info arrInfo).1 w
theorem arrSize:(Tryz.prog.info? 292).map (·.size)=some 16:=(zero_of_info arrInfo).2
theorem arrSizeV(f:Nat→Nat):(Tryz.prog.info? 292).map (·.size)=some (TV f).size:=by rw[TV_size];exact arrSize
theorem arrSizeL(f:Nat→Nat):(Tryz.prog.info? 292).map (·.size)=some (TL f).length:=by rw[TL_length];exact arrSize
variable {ops:Array Oper} {rest:List Oper} {op:Oper} {a:Act} {w:World} {Q:Exit→Act→World→Prop}
theorem step_load(x:Operand)(ho:op.op=.load 292 x)(hw:Region.wanted op (yielded ops a.tmps)=true)(b:Nat)(hx:a.eval x=.pointer (some ⟨b,0,none⟩))(f:Nat→Nat)(hT:Tb w b f)
 (h:wpList Tryz.prog ops Q rest (a.put op.dst (.agg (TV f))) w):wpList Tryz.prog ops Q (op::rest) a w:=
 wpList_step fun K hK=>by
  rw[if_pos hw];exact wp_load_mid 292 x ho b 0 hx (TL f) _ hT.range Tryz.underlying292 rfl (arrSizeL f) (hK _ _ h)
theorem step_store(hg:op.guard=none)(x y:Operand)(ho:op.op=.store 292 x y)(f g:Nat→Nat)(hx:a.eval x=.pointer (some ⟨w.heap.size,0,none⟩))(hy:a.eval y=.agg (TV g))
 (h:wpList Tryz.prog ops Q rest (a.put op.dst undef) (w.alloc (.cells (TV g) 292))):wpList Tryz.prog ops Q (op::rest) a (w.alloc (.cells (TV f) 292)):=
 wpList_plain hg fun K hK=>by
  refine wp_store_row 292 x y ho w.heap.size (TV g) hx hy 292 (TV f) (heap_alloc_new w _) (arrSizeV g) (by rw[TV_size,TV_size]) (TV_one g) ?_
  rw[World.setRow_alloc_new];exact hK _ _ h
theorem Tb.setRow{w:World}{b:Nat}{f:Nat→Nat}(h:Tb w b f)(g:Nat→Nat):Tb (w.setRow b (TV g)) b g:=Tb.of_row (setRow_heap w b _ _ _ _ h.row)
theorem below_setRow{B:Nat}{w0 w:World}(h:Below B w0 w)(b:Nat)(c:Array Value)(hb:B≤b):Below B w0 (w.setRow b c):=
 h.trans ⟨rfl,rfl,rfl,by simp[World.setRow],fun k hk=>by
  simp only[World.setRow,Array.getElem?_modify];rw[if_neg (by omega)]⟩
theorem step_store_row(hg:op.guard=none)(x y:Operand)(ho:op.op=.store 292 x y)(b:Nat)(f g:Nat→Nat)(hx:a.eval x=.pointer (some ⟨b,0,none⟩))(hy:a.eval y=.agg (TV g))(hT:Tb w b f)
 (h:wpList Tryz.prog ops Q rest (a.put op.dst undef) (w.setRow b (TV g))):wpList Tryz.prog ops Q (op::rest) a w:=
 wpList_plain hg fun K hK=>
  wp_store_row 292 x y ho b (TV g) hx hy 292 (TV f) hT.row (arrSizeV g) (by rw[TV_size,TV_size]) (TV_one g) (hK _ _ h)
theorem idxA(w:World)(f:Nat→Nat)(k:Nat)(hk:k<16):(Instr.index 292 (.agg (TV f)) (.int .i64 k)).run Tryz.prog w=.ok (.int .u32 (f k)) w:=by
 have h1:(0:Int)≤k∧(k:Int)<(16:Nat):=⟨by omega,by omega⟩;have h2:=TV_at f k hk;have hs:(sizeOf 48).run Tryz.prog w=.ok 1 w:=by kernel_rfl
 have hagg:(isAgg 48).run Tryz.prog w=.ok false w:=by kernel_rfl
 simp[Instr.index,asIntOf,run_underlying Tryz.underlying292,h1,hs,part,hagg,h2,Result.andThen];intro g;omega
end Go.Proofs.YtdpabanajgegjaaGreatDoor
namespace Go.Proofs.YtdpabanajgegjaaGreatDoor.M
def lx(p q:Nat×Nat):Prop:=p.1<q.1∨(p.1=q.1∧p.2<q.2)
theorem lx.trans{p q r:Nat×Nat}(h:lx p q)(k:lx q r):lx p r:=by unfold lx at*;omega
theorem lx.irr{p:Nat×Nat}(h:lx p p):False:=by unfold lx at h;omega
def Ord(e:Nat→Nat×Nat)(a b:Nat):Prop:=∀i j,a≤i→i<j→j<b→lx (e i) (e j)
structure Same(e e':Nat→Nat×Nat)(a b:Nat):Prop where
 out:∀i,i<a∨b≤i→e' i=e i
 fro:∀i,a≤i→i<b→∃j,a≤j∧j<b∧e' i=e j
 to:∀i,a≤i→i<b→∃j,a≤j∧j<b∧e i=e' j
section
variable {e e' e'':Nat→Nat×Nat} {a b m c d i j k n:Nat}
theorem Same.refl(e:Nat→Nat×Nat)(a b:Nat):Same e e a b:=⟨fun _ _=>rfl,fun i h g=>⟨i,h,g,rfl⟩,fun i h g=>⟨i,h,g,rfl⟩⟩
theorem Same.trans(h:Same e e' a b)(k:Same e' e'' a b):Same e e'' a b:=by
 refine⟨fun i hi=>(k.out i hi).trans (h.out i hi),fun i h1 h2=> ?_,fun i h1 h2=> ?_⟩
 · obtain⟨j,j1,j2,q⟩:=k.fro i h1 h2
   obtain⟨l,l1,l2,r⟩:=h.fro j j1 j2;exact⟨l,l1,l2,q.trans r⟩
 · obtain⟨j,j1,j2,q⟩:=h.to i h1 h2
   obtain⟨l,l1,l2,r⟩:=k.to j j1 j2;exact⟨l,l1,l2,q.trans r⟩
theorem Same.wide(h:Same e e' a b)(hc:c≤a)(hd:b≤d):Same e e' c d:=by
 refine⟨fun i hi=>h.out i (by omega),fun i h1 h2=> ?_,fun i h1 h2=> ?_⟩
 · by_cases q:a≤i∧i<b
   · obtain⟨j,j1,j2,r⟩:=h.fro i q.1 q.2
     exact⟨j,by omega,by omega,r⟩
   · exact⟨i,h1,h2,h.out i (by omega)⟩
 · by_cases q:a≤i∧i<b
   · obtain⟨j,j1,j2,r⟩:=h.to i q.1 q.2
     exact⟨j,by omega,by omega,r⟩
   · exact⟨i,h1,h2,(h.out i (by omega)).symm⟩
theorem Ord.congr(h:Ord e a b)(q:∀i,a≤i→i<b→e' i=e i):Ord e' a b:=fun i j h1 h2 h3=>by
 rw[q i h1 (by omega),q j (by omega) h3];exact h i j h1 h2 h3
theorem Ord.le(h:Ord e a b)(h1:a≤i)(h2:i≤j)(h3:j<b):e i=e j∨lx (e i) (e j):=by
 by_cases q:i=j
 · subst q;exact .inl rfl
 · exact .inr (h i j h1 (by omega) h3)
def swp(e:Nat→Nat×Nat)(i j t:Nat):Nat×Nat:=if t=i then e j else if t=j then e i else e t
def mvd(e:Nat→Nat×Nat)(j i t:Nat):Nat×Nat:=if t=j then e i else if j<t∧t≤i then e (t - 1) else e t
theorem mvd_self(e:Nat→Nat×Nat)(i t:Nat):mvd e i i t=e t:=by
 unfold mvd;split
 · subst_vars;rfl
 · rw[if_neg (by omega)]
theorem mvd_step(e:Nat→Nat×Nat){j i:Nat}(h0:0<j)(h:j≤i)(t:Nat):swp (mvd e j i) j (j - 1) t=mvd e (j - 1) i t:=by
 unfold swp mvd;by_cases h1:t=j
 · subst h1
   rw[if_pos rfl,if_neg (by omega),if_neg (by omega),if_neg (by omega),if_pos (by omega)]
 · rw[if_neg h1]
   by_cases h2:t=j - 1
   · rw[if_pos h2,if_pos rfl,if_pos h2]
   · rw[if_neg h2,if_neg h1,if_neg h2]
     by_cases h3:j<t∧t≤i
     · rw[if_pos h3,if_pos (by omega)]
     · rw[if_neg h3,if_neg (by omega)]
theorem mvd_same(e:Nat→Nat×Nat){a b j i:Nat}(h1:a≤j)(h2:j≤i)(h3:i<b):Same e (mvd e j i) a b:=by
 refine⟨fun t ht=> ?_,fun t g1 g2=> ?_,fun t g1 g2=> ?_⟩
 · unfold mvd;rw[if_neg (by omega),if_neg (by omega)]
 · unfold mvd
   split
   · exact⟨i,by omega,h3,rfl⟩
   · split
     · exact⟨t - 1,by omega,by omega,rfl⟩
     · exact⟨t,g1,g2,rfl⟩
 · by_cases q:t=i
   · subst q;exact⟨j,h1,by omega,by unfold mvd;rw[if_pos rfl]⟩
   · by_cases r:j≤t∧t<i
     · exact⟨t+1,by omega,by omega,by unfold mvd;rw[if_neg (by omega),if_pos (by omega)];congr 1⟩
     · exact⟨t,g1,g2,by unfold mvd;rw[if_neg (by omega),if_neg (by omega)]⟩
theorem mvd_ord{e:Nat→Nat×Nat}{a m i:Nat}(h:Ord e a m)(hr:∀t,a≤t→t<m→(e t).1=(e m).1→(e t).2<(e m).2)(ha:a≤i)(hm:i≤m)
 (h1:∀t,i≤t→t<m→(e m).1<(e t).1) (h2:i=a∨(e (i - 1)).1≤(e m).1):Ord (mvd e i m) a (m+1):=by
 have lo:∀t,a≤t→t<i→lx (e t) (e m):=by
  intro t g1 g2
  have q:lx (e (i - 1)) (e m):=by
   have:=hr (i - 1) (by omega) (by omega);unfold lx;omega
  rcases h.le g1 (show t≤i - 1 by omega) (by omega) with r|r
  · rw[r];exact q
  · exact r.trans q
 have hi:∀t,i≤t→t<m→lx (e m) (e t):=fun t g1 g2=> .inl (h1 t g1 g2)
 intro x y g1 g2 g3;unfold mvd;by_cases hx:x=i
 · rw[if_pos hx,if_neg (by omega),if_pos (by omega)];exact hi _ (by omega) (by omega)
 · rw[if_neg hx]
   by_cases hy:y=i
   · rw[if_pos hy,if_neg (by omega)];exact lo _ g1 (by omega)
   · rw[if_neg hy]
     by_cases hx2:i<x∧x≤m
     · rw[if_pos hx2,if_pos (by omega)];exact h _ _ (by omega) (by omega) (by omega)
     · rw[if_neg hx2]
       by_cases hy2:i<y∧y≤m
       · rw[if_pos hy2];exact h _ _ g1 (by omega) (by omega)
       · rw[if_neg hy2];exact h _ _ g1 g2 (by omega)
theorem ord_one{e e':Nat→Nat×Nat}{n n':Nat}(h:Ord e 0 n)(h':Ord e' 0 n')(q:∀i,i<n→∃j,j<n'∧e i=e' j)(q':∀i,i<n'→∃j,j<n∧e' i=e j):n=n'∧∀i,i<n→e i=e' i:=by
 have key:∀k,k≤n→k≤n'→∀i,i<k→e i=e' i:=by
  intro k
  induction k with
  |zero=>intro _ _ i hi;omega
  |succ k ih=>
   intro h1 h2 i hi;have ih':=ih (by omega) (by omega);by_cases c:i<k
   · exact ih' i c
   · obtain rfl:i=k:=by omega
     obtain⟨x,x1,x2⟩:=q i (by omega);obtain⟨y,y1,y2⟩:=q' i (by omega)
     have hx:i≤x:=by
      apply Nat.le_of_not_lt;intro hlt
      have:=h x i (Nat.zero_le _) hlt (by omega);rw[x2,ih' x hlt] at this;exact this.irr
     have hy:i≤y:=by
      apply Nat.le_of_not_lt;intro hlt
      have:=h' y i (Nat.zero_le _) hlt (by omega);rw[y2,←ih' y hlt] at this;exact this.irr
     rcases h'.le (Nat.zero_le _) hx x1 with r|r
     · rw[x2,←r]
     · rcases h.le (Nat.zero_le _) hy y1 with s|s
       · rw[s,←y2]
       · rw[←y2,x2] at s;exact(r.trans s).irr.elim
 have hn:¬n<n':=by
  intro hlt;obtain⟨y,y1,y2⟩:=q' n hlt;rw[key n (Nat.le_refl _) (by omega) y y1] at y2;have:=h' y n (Nat.zero_le _) y1 hlt;rw[y2] at this;exact this.irr
 have hn':¬n'<n:=by
  intro hlt;obtain⟨y,y1,y2⟩:=q n' hlt;rw[←key n' (by omega) (Nat.le_refl _) y y1] at y2;have:=h y n' (Nat.zero_le _) y1 hlt;rw[y2] at this;exact this.irr
 obtain rfl:n=n':=by omega
 exact⟨rfl,key n (Nat.le_refl _) (Nat.le_refl _)⟩
end
structure Mem(e e':Nat→Nat×Nat)(a b:Nat):Prop where
 fro:∀i,a≤i→i<b→∃j,a≤j∧j<b∧e' i=e j
 to:∀i,a≤i→i<b→∃j,a≤j∧j<b∧e i=e' j
def Inc(e:Nat→Nat×Nat)(n:Nat):Prop:=∀i j,i<j→j<n→(e i).2<(e j).2
section
variable {e0 e e':Nat→Nat×Nat} {a b c d m n q bs:Nat}
theorem Same.mem(h:Same e e' a b):Mem e e' a b:=⟨h.fro,h.to⟩
end
def hit(l:Nat→Nat)(n r i:Nat):Prop:=l i≠0∧cod l n i=r/2^(15 - l i)
instance (l:Nat→Nat) (n r i:Nat):Decidable (hit l n r i):=inferInstanceAs (Decidable (l i≠0∧cod l n i=r/2^(15 - l i)))
def hits(l:Nat→Nat)(n r:Nat):Nat→Nat
 |0=>0
 |k+1=>hits l n r k+if hit l n r k then 1 else 0
def hs(l:Nat→Nat)(n r s:Nat):Nat→Nat
 |0=>0
 |k+1=>hs l n r s k+if l k=s∧(s≠0∧cod l n k=r/2^(15 - s)) then 1 else 0
def sumS(f:Nat→Nat):Nat→Nat
 |0=>0
 |m+1=>sumS f m+f m
theorem sumS_add(f g:Nat→Nat):∀m,sumS (fun s=>f s+g s) m=sumS f m+sumS g m
 |0=>rfl
 |m+1=>by simp only[sumS];rw[sumS_add f g m];omega
theorem sumS_congr{f g:Nat→Nat}:∀m,(∀s,s<m→f s=g s)→sumS f m=sumS g m
 |0,_=>rfl
 |m+1,h=>by simp only[sumS];rw[sumS_congr m (fun s hs=>h s (by omega)),h m (by omega)]
theorem sumS_one(x:Nat)(P:Nat→Prop)[DecidablePred P]:∀m,sumS (fun s=>if x=s∧P s then 1 else 0) m=if x<m∧P x then 1 else 0
 |0=>by simp[sumS]
 |m+1=>by
  simp only[sumS];rw[sumS_one x P m];by_cases e:x=m
  · subst e
    by_cases hp:P x<;>simp[hp]
  · by_cases hp:P x
    · by_cases hl:x<m
      · have h2:x<m+1:=by omega
        simp[hp,hl,h2,e]
      · have h2:¬x<m+1:=by omega
        simp[hp,hl,h2,e]
    · simp[hp,e]
theorem hits_sum(l:Nat→Nat)(n r:Nat):∀k,(∀i,i<k→l i≤15)→hits l n r k=sumS (fun s=>hs l n r s k) 16
 |0,_=>by simp[hits,sumS,hs]
 |k+1,h=>by
  have h16:l k<16:=by have:=h k (by omega);omega
  have e1:hits l n r (k+1)=hits l n r k+if hit l n r k then 1 else 0:=rfl;have e2:sumS (fun s=>hs l n r s (k+1)) 16=sumS (fun s=>hs l n r s k+if l k=s∧(s≠0∧cod l n k=r/2^(15 - s)) then 1 else 0) 16:=rfl;have e3:=sumS_one (l k) (fun s=>s≠0∧cod l n k=r/2^(15 - s)) 16;rw[e1,e2,sumS_add,←hits_sum l n r k (fun i hi=>h i (by omega)),e3];by_cases hh:hit l n r k
  · rw[if_pos hh,if_pos (⟨h16,hh⟩:l k<16∧(l k≠0∧cod l n k=r/2^(15 - l k)))]
  · rw[if_neg hh,if_neg (fun q:l k<16∧(l k≠0∧cod l n k=r/2^(15 - l k))=>hh q.2)]
theorem hs_of(l:Nat→Nat)(n r s:Nat)(h0:s≠0):∀k,hs l n r s k=if fs (c0 l n) s≤r/2^(15 - s)∧r/2^(15 - s)<fs (c0 l n) s+cnt l s k then 1 else 0
 |0=>by
  have e2:cnt l s 0=0:=rfl;rw[if_neg (by omega)];rfl
 |k+1=>by
  have e1:hs l n r s (k+1)=hs l n r s k+if l k=s∧(s≠0∧cod l n k=r/2^(15 - s)) then 1 else 0:=rfl;have e2:cnt l s (k+1)=cnt l s k+if l k=s then 1 else 0:=rfl;rw[e1,hs_of l n r s h0 k];by_cases e:l k=s
  · have hc:cod l n k=fs (c0 l n) s+cnt l s k:=by unfold cod;rw[e,if_neg h0]
    rw[if_pos e] at e2;by_cases a:cod l n k=r/2^(15 - s)
    · rw[if_pos (show l k=s∧s≠0∧cod l n k=r/2^(15 - s) from⟨e,h0,a⟩),if_neg (by omega),if_pos (by omega)]
    · rw[if_neg (show ¬(l k=s∧s≠0∧cod l n k=r/2^(15 - s)) from fun q=>a q.2.2)]
      by_cases b:fs (c0 l n) s≤r/2^(15 - s)∧r/2^(15 - s)<fs (c0 l n) s+cnt l s k
      · rw[if_pos b,if_pos (by omega)]
      · rw[if_neg b,if_neg (by omega)]
  · rw[if_neg e] at e2
    rw[if_neg (show ¬(l k=s∧s≠0∧cod l n k=r/2^(15 - s)) from fun q=>e q.1),show cnt l s (k+1)=cnt l s k from e2];rfl
theorem hs_zero(l:Nat→Nat)(n r:Nat):∀k,hs l n r 0 k=0
 |0=>rfl
 |k+1=>by
  have e1:hs l n r 0 (k+1)=hs l n r 0 k+if l k=0∧(0≠0∧cod l n k=r/2^(15 - 0)) then 1 else 0:=rfl;rw[e1,hs_zero l n r k,if_neg (fun q=>q.2.1 rfl)]
theorem hs_aw(l:Nat→Nat)(n r s:Nat)(h:s≤15):hs l n r s n=if aw (c0 l n) s≤r∧r<aw (c0 l n) (s+1) then 1 else 0:=by
 by_cases h0:s=0
 · subst h0
   rw[hs_zero];have:aw (c0 l n) (0+1)=0:=by simp[aw,c0]
   rw[this,if_neg (by omega)]
 · rw[hs_of l n r s h0]
   have hc:cnt l s n=c0 l n s:=by unfold c0;rw[if_neg h0]
   have h1:fs (c0 l n) s≤r/2^(15 - s)↔aw (c0 l n) s≤r:=by
    rw[Nat.le_div_iff_mul_le (Nat.two_pow_pos _),fs_aw _ s h]
   have h2:r/2^(15 - s)<fs (c0 l n) s+c0 l n s↔r<aw (c0 l n) (s+1):=by
    rw[Nat.div_lt_iff_lt_mul (Nat.two_pow_pos _),fs_end _ s h]
   rw[hc];simp only[h1,h2]
theorem tele(c:Nat→Nat)(r:Nat):∀m,sumS (fun s=>if aw c s≤r∧r<aw c (s+1) then 1 else 0) m=if r<aw c m then 1 else 0
 |0=>by simp[sumS,aw]
 |m+1=>by
  simp only[sumS];rw[tele c r m];have:=aw_mono c (show m≤m+1 by omega);by_cases a:r<aw c m
  · rw[if_pos a,if_neg (by omega),if_pos (by omega)]
  · by_cases b:r<aw c (m+1)
    · rw[if_neg a,if_pos ⟨by omega,b⟩,if_pos b]
    · rw[if_neg a,if_neg (fun q=>b q.2),if_neg b]
theorem hits_all{l:Nat→Nat}{n:Nat}(r:Nat)(hm:May l n):hits l n r n=if r<weight l n then 1 else 0:=by
 rw[hits_sum l n r n hm.2,sumS_congr 16 (fun s hs'=>hs_aw l n r s (by omega)),tele,aw_weight l n hm.2]
theorem kind_two{l:Nat→Nat}{n:Nat}(h:kind l n=2):weight l n=32768:=by
 have hm:=kind_may (show kind l n≠5 by omega);rw[kind_of hm] at h;by_cases a:weight l n=0
 · rw[if_pos a] at h;omega
 · rw[if_neg a] at h
   by_cases b:32768<weight l n
   · rw[if_pos b] at h;omega
   · rw[if_neg b] at h
     by_cases c:weight l n=32768
     · exact c
     · rw[if_neg c] at h;split at h<;>omega
theorem kind_zero{l:Nat→Nat}{n:Nat}(h:kind l n=0):weight l n=0:=by
 have hm:=kind_may (show kind l n≠5 by omega);rw[kind_of hm] at h;by_cases a:weight l n=0
 · exact a
 · rw[if_neg a] at h
   by_cases b:32768<weight l n
   · rw[if_pos b] at h;omega
   · rw[if_neg b] at h
     by_cases c:weight l n=32768
     · rw[if_pos c] at h;omega
     · rw[if_neg c] at h;split at h<;>omega
end Go.Proofs.YtdpabanajgegjaaGreatDoor.M
