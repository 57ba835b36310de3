/- Texts of one place, one behind the other: MaR, MathS. -/
set_option linter.unusedVariables false
namespace Go.Proofs.YtdpabanajgegjaaGreatDoor.M
structure Rn where
 s:Nat
 e:Nat
deriving DecidableEq,Inhabited
def tms(r:Rn):Nat:=if r.s<16∧r.e=0 then 1 else if r.s=16∧r.e<4 then 3+r.e else if r.s=17∧r.e<8 then 3+r.e else if r.s=18∧r.e<128 then 11+r.e else 0
def rbs(s:Nat):Int:=if s<16 then 0 else if s=16 then 2 else if s=17 then 3 else if s=18 then 7 else -1
theorem tms_le(r:Rn):tms r≤138:=by unfold tms;repeat' split
                                   all_goals omega
theorem tms_lit{v:Nat}(h:v<16):tms ⟨v,0⟩=1:=by unfold tms;rw[if_pos ⟨h,rfl⟩]
theorem tms_16{e:Nat}(h:e<4):tms ⟨16,e⟩=3+e:=by unfold tms;rw[if_neg (fun q=>by have:=q.1;simp at this),if_pos ⟨rfl,h⟩]
theorem tms_17{e:Nat}(h:e<8):tms ⟨17,e⟩=3+e:=by unfold tms;rw[if_neg (fun q=>by have:=q.1;simp at this),if_neg (fun q=>by have:=q.1;simp at this),if_pos ⟨rfl,h⟩]
theorem tms_18{e:Nat}(h:e<128):tms ⟨18,e⟩=11+e:=by unfold tms;rw[if_neg (fun q=>by have:=q.1;simp at this),if_neg (fun q=>by have:=q.1;simp at this),if_neg (fun q=>by have:=q.1;simp at this),if_pos ⟨rfl,h⟩]
def zrs(n:Nat):List Rn:=
 if h:11≤n then⟨18,min n 138 - 11⟩::zrs (n - min n 138) else if 3≤n then[⟨17,n - 3⟩] else List.replicate n ⟨0,0⟩
termination_by n
decreasing_by omega
theorem zrs_many{n:Nat}(h:11≤n):zrs n=⟨18,min n 138 - 11⟩::zrs (n - min n 138):=by rw[zrs,dif_pos h]
theorem zrs_some{n:Nat}(h:¬11≤n)(h3:3≤n):zrs n=[⟨17,n - 3⟩]:=by rw[zrs,dif_neg h,if_pos h3]
theorem zrs_few{n:Nat}(h3:¬3≤n):zrs n=List.replicate n ⟨0,0⟩:=by rw[zrs,dif_neg (by omega),if_neg h3]
def oths(v n:Nat):List Rn:=
 if h:3≤n then⟨16,min n 6 - 3⟩::oths v (n - min n 6) else List.replicate n ⟨v,0⟩
termination_by n
decreasing_by omega
theorem oths_many{v n:Nat}(h:3≤n):oths v n=⟨16,min n 6 - 3⟩::oths v (n - min n 6):=by rw[oths,dif_pos h]
theorem oths_few{v n:Nat}(h:¬3≤n):oths v n=List.replicate n ⟨v,0⟩:=by rw[oths,dif_neg h]
def oth(v n:Nat):List Rn:=⟨v,0⟩::oths v (n - 1)
def ru(v:Nat):List Nat→Nat
 |[]=>0
 |x::l=>if x=v then ru v l+1 else 0
theorem ru_le(v:Nat):∀l,ru v l≤l.length
 |[]=>Nat.le_refl _
 |x::l=>by unfold ru;split;simp only[List.length_cons];have:=ru_le v l;omega;exact Nat.zero_le _
def one(v n:Nat):List Rn:=if v=0 then zrs n else oth v n
def pk:List Nat→List Rn
 |[]=> []
 |v::l=>one v (ru v l+1)++pk (l.drop (ru v l))
termination_by l=>l.length
decreasing_by rw[List.length_drop,List.length_cons];omega
theorem pk_nil:pk []=[]:=by rw[pk]
theorem pk_cons(v:Nat)(l:List Nat):pk (v::l)=one v (ru v l+1)++pk (l.drop (ru v l)):=by rw[pk]
theorem zrs_len(n:Nat):(zrs n).length≤n:=by
 induction n using Nat.strongRecOn with
 |_ n ih=>
  by_cases h:11≤n
  · rw[zrs_many h,List.length_cons];have:=ih (n - min n 138) (by omega);omega
  · by_cases h3:3≤n
    · rw[zrs_some h h3,List.length_singleton];omega
    · rw[zrs_few h3,List.length_replicate];exact Nat.le_refl _
theorem oths_len(v n:Nat):(oths v n).length≤n:=by
 induction n using Nat.strongRecOn with
 |_ n ih=>
  by_cases h:3≤n
  · rw[oths_many h,List.length_cons];have:=ih (n - min n 6) (by omega);omega
  · rw[oths_few h,List.length_replicate];exact Nat.le_refl _
theorem one_len(v n:Nat)(hn:1≤n):(one v n).length≤n:=by
 unfold one
 split
 · exact zrs_len n
 · unfold oth;rw[List.length_cons];have:=oths_len v (n - 1);omega
theorem pk_len:∀l,(pk l).length≤l.length:=by
 intro l;generalize hn:l.length=n
 induction n using Nat.strongRecOn generalizing l with
 |_ n ih=>
  cases l with
  |nil=>rw[pk_nil];exact Nat.zero_le _
  |cons v l=>
   rw[pk_cons,List.length_append];have h1:=one_len v (ru v l+1) (by omega);have h2:=ru_le v l;rw[List.length_cons] at hn;have h3:=ih (l.drop (ru v l)).length (by rw[List.length_drop];omega) _ rfl;rw[List.length_drop] at h3;omega
def vlr(out:List Nat)(r:Rn):Nat:=if r.s=16 then out.getLastD 0 else if 16<r.s then 0 else r.s
def unp(n:Nat)(out:List Nat):List Rn→Int×List Nat
 |[]=>if out.length<n then(7,[]) else(0,out)
 |r::L=>if tms r=0 then(2,[]) else if r.s=16∧out=[] then(7,[]) else if n<out.length+tms r then(7,[]) else unp n (out++List.replicate (tms r) (vlr out r)) L
section
variable {n:Nat} {out:List Nat} {r:Rn} {L:List Rn}
theorem unp_arg(h:tms r=0):unp n out (r::L)=(2,[]):=by rw[unp,if_pos h]
theorem unp_first(h:tms r≠0)(h1:r.s=16)(h2:out=[]):unp n out (r::L)=(7,[]):=by rw[unp,if_neg h,if_pos ⟨h1,h2⟩]
theorem unp_more(h:tms r≠0)(h1:¬(r.s=16∧out=[]))(h2:n<out.length+tms r):unp n out (r::L)=(7,[]):=by rw[unp,if_neg h,if_neg h1,if_pos h2]
theorem unp_go(h:tms r≠0)(h1:¬(r.s=16∧out=[]))(h2:¬n<out.length+tms r):unp n out (r::L)=unp n (out++List.replicate (tms r) (vlr out r)) L:=by rw[unp,if_neg h,if_neg h1,if_neg h2]
theorem unp_less(h:out.length<n):unp n out []=(7,[]):=by rw[unp,if_pos h]
theorem unp_end(h:¬out.length<n):unp n out []=(0,out):=by rw[unp,if_neg h]
end
structure Stp(l s:Nat→Nat)(m:Nat):Prop where
 next:∀i,i<m→l (i+1)=l i+s i
 pos:∀i,i≤m→0<s i
def fdn(l:Nat→Nat)(n:Nat):Nat→Nat
 |0=>0
 |k+1=>if l (k+1)≤n then k+1 else fdn l n k
section
variable {l s:Nat→Nat} {m:Nat}
theorem fdn_le(l:Nat→Nat)(n:Nat):∀k,fdn l n k≤k
 |0=>Nat.le_refl _
 |k+1=>by unfold fdn;split;exact Nat.le_refl _;exact Nat.le_succ_of_le (fdn_le l n k)
theorem fdn_low{n:Nat}(h0:l 0≤n):∀k,l (fdn l n k)≤n
 |0=>h0
 |k+1=>by unfold fdn;split;assumption;exact fdn_low h0 k
theorem fdn_high{n:Nat}:∀k i,fdn l n k<i→i≤k→n<l i
 |0,i,h1,h2=>by unfold fdn at h1;omega
 |k+1,i,h1,h2=>by
  unfold fdn at h1
  split at h1
  · omega
  · by_cases e:i=k+1
    · subst e;omega
    · exact fdn_high k i h1 (by omega)
theorem Stp.mono(h:Stp l s m):∀i j,i<j→j≤m→l i+s i≤l j
 |i,0,hij,_=>by omega
 |i,j+1,hij,hj=>by
  by_cases e:i=j
  · subst e;exact Nat.le_of_eq (h.next i (by omega)).symm
  · have:=h.mono i j (by omega) (by omega)
    have:=h.next j (by omega)
    omega
theorem Stp.inn(h:Stp l s m){n:Nat}(h0:l 0≤n)(h1:n<l m+s m):fdn l n m≤m∧l (fdn l n m)≤n∧n<l (fdn l n m)+s (fdn l n m):=by
 refine⟨fdn_le l n m,fdn_low h0 m,?_⟩;by_cases e:fdn l n m=m
 · rw[e];exact h1
 · have hl:=fdn_le l n m
   have:=h.next (fdn l n m) (by omega)
   have:=fdn_high (l:=l) (n:=n) m (fdn l n m+1) (by omega) (by omega);omega
theorem Stp.uniq(h:Stp l s m){n i:Nat}(hi:i≤m)(h0:l i≤n)(h1:n<l i+s i):fdn l n m=i:=by
 have hl0:l 0≤l i:=by
  by_cases e:i=0
  · subst e;exact Nat.le_refl _
  · have:=h.mono 0 i (by omega) hi;omega
 have hlm:l i+s i≤l m+s m:=by
  by_cases e:i=m
  · subst e;exact Nat.le_refl _
  · have:=h.mono i m (by omega) (Nat.le_refl _);omega
 obtain⟨h2,h3,h4⟩:=h.inn (n:=n) (by omega) (by omega);rcases Nat.lt_trichotomy (fdn l n m) i with q|q|q
 · have:=h.mono _ _ q hi;omega
 · exact q
 · have:=h.mono _ _ q h2;omega
end
def lls:List Nat:=[3,4,5,6,7,8,9,10,11,13,15,17,19,23,27,31,35,43,51,59,67,83,99,115,131,163,195,227,258]
def ll(i:Nat):Nat:=lls.getD i 0
def lb(i:Nat):Nat:=if i<8∨i=28 then 0 else(i - 4) /4
def ls(i:Nat):Nat:=if i=27 then 31 else 2^lb i
theorem ll_stp:Stp ll ls 28:=⟨by decide,by decide⟩
theorem lb_le:∀i,i≤28→lb i≤5:=by decide
theorem ll_le:∀i,i≤28→ll i≤258:=by decide
theorem ls_le{i:Nat}(hi:i≤28):ls i≤2^lb i:=by
 unfold ls;split
 · rename_i h;subst h;decide
 · exact Nat.le_refl _
def lsy(n:Nat):Nat:=fdn ll n 28
def lex(n:Nat):Nat:=n - ll (lsy n)
theorem len_in{n:Nat}(h:3≤n∧n≤258):lsy n≤28∧ll (lsy n)≤n∧n<ll (lsy n)+ls (lsy n):=ll_stp.inn h.1 (by show n<258+1;omega)
theorem len_uniq{n i:Nat}(hi:i≤28)(h0:ll i≤n)(h1:n<ll i+ls i):lsy n=i:=ll_stp.uniq hi h0 h1
def lof(i e:Nat):Nat:=if i≤28∧e<ls i then ll i+e else 0
theorem lof_one{i e:Nat}(h:lof i e≠0):i≤28∧e<ls i∧lof i e=ll i+e∧lsy (lof i e)=i∧lex (lof i e)=e∧3≤lof i e∧lof i e≤258:=by
 by_cases q:i≤28∧e<ls i
 · have hv:lof i e=ll i+e:=by unfold lof;rw[if_pos q]
   have hs:=len_uniq (n:=ll i+e) q.1 (by omega) (by omega);have h3:∀i,i≤28→3≤ll i∧ll i+ls i≤259:=by decide
   have:=h3 i q.1;refine⟨q.1,q.2,hv,by rw[hv];exact hs,?_,by omega,by omega⟩;rw[hv];unfold lex;rw[hs];omega
 · exact absurd (by unfold lof;rw[if_neg q]) h
theorem lof_ls{i e:Nat}(hi:i≤28):(e<2^lb i∧¬(i=27∧e=31))↔e<ls i:=by
 unfold ls;by_cases q:i=27
 · subst q
   rw[if_pos rfl,show(2:Nat)^lb 27=32 from rfl];omega
 · rw[if_neg q]
   constructor
   · exact fun h=>h.1
   · exact fun h=>⟨h,fun g=>q g.1⟩
def dls:List Nat:=[1,2,3,4,5,7,9,13,17,25,33,49,65,97,129,193,257,385,513,769,1025,1537,2049,3073,4097,6145,8193,12289,16385,24577]
def dl(i:Nat):Nat:=dls.getD i 0
def db(i:Nat):Nat:=if i<4 then 0 else(i - 2) /2
def ds(i:Nat):Nat:=2^db i
theorem dl_stp:Stp dl ds 29:=⟨by decide,by decide⟩
theorem db_le:∀i,i≤29→db i≤13:=by decide
theorem dl_le:∀i,i≤29→dl i≤24577:=by decide
def dsy(n:Nat):Nat:=fdn dl n 29
def dex(n:Nat):Nat:=n - dl (dsy n)
theorem dist_in{n:Nat}(h:1≤n∧n≤32768):dsy n≤29∧dl (dsy n)≤n∧n<dl (dsy n)+ds (dsy n):=dl_stp.inn h.1 (by show n<24577+8192;omega)
theorem dist_uniq{n i:Nat}(hi:i≤29)(h0:dl i≤n)(h1:n<dl i+ds i):dsy n=i:=dl_stp.uniq hi h0 h1
def dof(i e:Nat):Nat:=if i≤29∧e<ds i then dl i+e else 0
theorem dof_one{i e:Nat}(h:dof i e≠0):i≤29∧e<ds i∧dof i e=dl i+e∧dsy (dof i e)=i∧dex (dof i e)=e∧1≤dof i e∧dof i e≤32768:=by
 by_cases q:i≤29∧e<ds i
 · have hv:dof i e=dl i+e:=by unfold dof;rw[if_pos q]
   have hs:=dist_uniq (n:=dl i+e) q.1 (by omega) (by omega);have h3:∀i,i≤29→1≤dl i∧dl i+ds i≤32769:=by decide
   have:=h3 i q.1;refine⟨q.1,q.2,hv,by rw[hv];exact hs,?_,by omega,by omega⟩;rw[hv];unfold dex;rw[hs];omega
 · exact absurd (by unfold dof;rw[if_neg q]) h
end Go.Proofs.YtdpabanajgegjaaGreatDoor.M
