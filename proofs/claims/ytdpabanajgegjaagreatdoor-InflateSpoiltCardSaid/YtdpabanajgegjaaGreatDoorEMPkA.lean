/- Texts of one place, one behind the other: PkA, PkB, PkC, PkD. -/
import Derived.Test.YtdpabanajgegjaaGreatDoorEThg
import Derived.Test.YtdpabanajgegjaaGreatDoorEMSoB
import Derived.Test.YtdpabanajgegjaaGreatDoorEMMathT
import Derived.Deep.OwnRows
import Derived.BigQuiet
set_option linter.unusedVariables false
namespace Go.Proofs.YtdpabanajgegjaaGreatDoor
open Go.RowKit M
structure Raw(c:Nat→Nat)(k m:Nat)(e:Nat→Nat×Nat):Prop where
 inc:Inc e m
 is_:∀i,i<m→(e i).2<k∧0<c (e i).2∧(e i).1=c (e i).2
 all:∀s,s<k→0<c s→∃i,i<m∧(e i).2=s
 le:m≤k
structure IsLv(c:Nat→Nat)(n m:Nat)(e:Nat→Nat×Nat):Prop where
 ord:Ord e 0 m
 is_:∀i,i<m→(e i).2<n∧0<c (e i).2∧(e i).1=c (e i).2
 all:∀s,s<n→0<c s→∃i,i<m∧(e i).2=s
 le:m≤n
theorem Raw.none(c:Nat→Nat)(e:Nat→Nat×Nat):Raw c 0 0 e:=⟨fun i j h1 h2=>by omega,fun i h=>by omega,fun s h=>by omega,Nat.le_refl _⟩
theorem Raw.skip{c:Nat→Nat}{k m:Nat}{e:Nat→Nat×Nat}(h:Raw c k m e)(hz:c k=0):Raw c (k+1) m e:=
 ⟨h.inc,fun i hi=>by have:=h.is_ i hi;exact⟨by omega,this.2⟩,fun s hs hc=>by
  by_cases q:s=k
  · subst q;omega
  · exact h.all s (by omega) hc,by have:=h.le;omega⟩
theorem Raw.more{c:Nat→Nat}{k m:Nat}{e:Nat→Nat×Nat}(h:Raw c k m e)(hz:0<c k):Raw c (k+1) (m+1) (fun i=>if i=m then(c k,k) else e i):=by
 refine⟨fun i j h1 h2=> ?_,fun i hi=> ?_,fun s hs hc=> ?_,by have:=h.le;omega⟩
 · by_cases q:j=m
   · have:=(h.is_ i (by omega)).1
     simp only[if_pos q,if_neg (show ¬i=m by omega)];exact this
   · simp only[if_neg q,if_neg (show ¬i=m by omega)];exact h.inc i j h1 (by omega)
 · by_cases q:i=m
   · simp only[if_pos q];exact⟨Nat.lt_succ_self _,hz,trivial⟩
   · simp only[if_neg q];have:=h.is_ i (by omega);exact⟨by omega,this.2⟩
 · by_cases q:s=k
   · exact⟨m,by omega,by simp only[if_pos];exact q.symm⟩
   · obtain⟨i,hi,r⟩:=h.all s (by omega) hc
     exact⟨i,by omega,by simp only[if_neg (show ¬i=m by omega)];exact r⟩
theorem Raw.lv{c:Nat→Nat}{n m:Nat}{e e':Nat→Nat×Nat}(h:Raw c n m e)(ho:Ord e' 0 m)(hm:Mem e e' 0 m):IsLv c n m e':=
 ⟨ho,fun i hi=>by
  obtain⟨j,_,j2,q⟩:=hm.fro i (Nat.zero_le _) hi;rw[q];exact h.is_ j j2,fun s hs hc=>by
  obtain⟨i,hi,r⟩:=h.all s hs hc;obtain⟨j,_,j2,q⟩:=hm.to i (Nat.zero_le _) hi;exact⟨j,j2,by rw[←q];exact r⟩,h.le⟩
def tp0:Tp:=(.lf 0 0,none)
section
variable {w w':World} {g n:Nat} {T:TypeId} {X Y:Nat→Tp}
end
theorem pks_at:∀ (R:List Th) (i:Nat),i<R.length/2→(pks R)[i]? =some (.pk (R.getD (2*i) (.lf 0 0)) (R.getD (2*i+1) (.lf 0 0)))
 |[],i,h=>by simp at h
 |[a],i,h=>by simp at h
 |a::b::r,0,h=>by simp[pks]
 |a::b::r,i+1,h=>by
  simp only[List.length_cons] at h;rw[pks,List.getElem?_cons_succ,pks_at r i (by omega),show 2*(i+1)=2*i+1+1 by omega];simp
theorem getD_map(R:List Tp)(i:Nat):(R.map (·.1)).getD i (.lf 0 0)=(R.getD i tp0).1:=by
 rw[List.getD,List.getD,List.getElem?_map];cases R[i]? <;>rfl
def mr2(L P:List Tp):List Tp:=match L,P with
 |[],P=>P
 |l::L,[]=>l::L
 |l::L,p::P=>if p.1.wt<l.1.wt then p::mr2 (l::L) P else l::mr2 L (p::P)
termination_by L.length+P.length
theorem mr2_nil(P:List Tp):mr2 [] P=P:=by rw[mr2]
theorem mr2_nil'(L:List Tp):mr2 L []=L:=by cases L<;>rw[mr2]
theorem mr2_cons(l p:Tp)(L P:List Tp):mr2 (l::L) (p::P)=if p.1.wt<l.1.wt then p::mr2 (l::L) P else l::mr2 L (p::P):=by rw[mr2]
theorem mr2_fst:∀ (L P:List Tp),(mr2 L P).map (·.1)=mrg (L.map (·.1)) (P.map (·.1))
 |[],P=>by rw[mr2_nil,List.map_nil,mrg_nil]
 |l::L,[]=>by rw[mr2_nil',List.map_nil,mrg_nil']
 |l::L,p::P=>by
  rw[mr2_cons,List.map_cons,List.map_cons,mrg_cons];by_cases h:p.1.wt<l.1.wt
  · rw[if_pos h,if_pos h,List.map_cons,mr2_fst (l::L) P,List.map_cons]
  · rw[if_neg h,if_neg h,List.map_cons,mr2_fst L (p::P),List.map_cons]
termination_by L P=>L.length+P.length
theorem mr2_mem(x:Tp):∀ (L P:List Tp),x∈mr2 L P→x∈L∨x∈P
 |[],P,h=>by rw[mr2_nil] at h;exact .inr h
 |l::L,[],h=>by rw[mr2_nil'] at h;exact .inl h
 |l::L,p::P,h=>by
  rw[mr2_cons] at h;by_cases q:p.1.wt<l.1.wt
  · rw[if_pos q] at h
    rcases List.mem_cons.1 h with rfl|h
    · exact .inr List.mem_cons_self
    · rcases mr2_mem x (l::L) P h with h|h
      · exact .inl h
      · exact .inr (List.mem_cons_of_mem _ h)
  · rw[if_neg q] at h
    rcases List.mem_cons.1 h with rfl|h
    · exact .inl List.mem_cons_self
    · rcases mr2_mem x L (p::P) h with h|h
      · exact .inl (List.mem_cons_of_mem _ h)
      · exact .inr h
termination_by L P=>L.length+P.length
theorem mr2_less{L P:List Tp}{l p:Tp}{i j:Nat}(hl:L[i]? =some l)(hp:P[j]? =some p)(h:p.1.wt<l.1.wt):mr2 (L.drop i) (P.drop j)=p::mr2 (L.drop i) (P.drop (j+1)):=by
 obtain⟨hi,rfl⟩:=List.getElem?_eq_some_iff.1 hl;obtain⟨hj,rfl⟩:=List.getElem?_eq_some_iff.1 hp;rw[List.drop_eq_getElem_cons hi,List.drop_eq_getElem_cons hj,mr2_cons,if_pos h]
theorem mr2_leaf{L P:List Tp}{l:Tp}{i j:Nat}(hl:L[i]? =some l)(h:∀p,P[j]? =some p→¬p.1.wt<l.1.wt):mr2 (L.drop i) (P.drop j)=l::mr2 (L.drop (i+1)) (P.drop j):=by
 obtain⟨hi,rfl⟩:=List.getElem?_eq_some_iff.1 hl;rw[List.drop_eq_getElem_cons hi];by_cases hj:j<P.length
 · rw[List.drop_eq_getElem_cons hj,mr2_cons,if_neg (h _ (List.getElem?_eq_getElem hj))]
 · rw[show P.drop j=[] from List.drop_eq_nil_of_le (by omega),mr2_nil',mr2_nil']
theorem row_most(L:List Th):∀k,(row L k).length≤2*L.length
 |0=>by simp[row]
 |k+1=>by rw[row_length];have:=row_most L k;omega
theorem row_wt{L:List Th}{M:Nat}(h:∀t∈L,t.wt≤M):∀k,∀t∈row L (k+1),t.wt≤M*2^k
 |0,t,ht=>by rw[row_one] at ht;simpa using h t ht
 |k+1,t,ht=>by
  have ih:=row_wt h k;rcases(mrg_mem t _ _).1 ht with g|g
  · exact Nat.le_trans (h t g) (Nat.le_mul_of_pos_right _ (Nat.two_pow_pos _))
  · have key:∀ (R:List Th),(∀u∈R,u.wt≤M*2^k)→∀u∈pks R,u.wt≤M*2^(k+1):=by
     intro R
     induction R using pks.induct with
     |case1 c d r ih2=>
      intro hr u hu;rcases List.mem_cons.1 hu with rfl|hu
      · have h1:=hr c (by simp);have h2:=hr d (by simp)
        simp only[Th.wt];rw[Nat.pow_succ,←Nat.mul_assoc];omega
      · exact ih2 (fun t ht=>hr t (by simp[ht])) u hu
     |case2 r hr=>intro _ u hu;unfold pks at hu;split at hu;exact absurd rfl (hr _ _ _);cases hu
    exact key _ ih t g
end Go.Proofs.YtdpabanajgegjaaGreatDoor
