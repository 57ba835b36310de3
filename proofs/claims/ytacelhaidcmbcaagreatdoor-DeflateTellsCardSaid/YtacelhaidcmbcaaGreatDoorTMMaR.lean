/- Texts of one place, one behind the other: MaR, MathS. -/
import Derived.Test.YtacelhaidcmbcaaGreatDoorTMMathT
set_option linter.unusedVariables false
namespace Go.Proofs.YtacelhaidcmbcaaGreatDoor.M
structure Rn where
 s:Nat
 e:Nat
deriving DecidableEq,Inhabited
def tms(r:Rn):Nat:=if r.s<16∧r.e=0 then 1 else if r.s=16∧r.e<4 then 3+r.e else if r.s=17∧r.e<8 then 3+r.e else if r.s=18∧r.e<128 then 11+r.e else 0
def rbs(s:Nat):Int:=if s<16 then 0 else if s=16 then 2 else if s=17 then 3 else if s=18 then 7 else -1
theorem zfB{v:Nat}(h:v<16):tms ⟨v,0⟩=1:=by unfold tms;rw[if_pos ⟨h,rfl⟩]
theorem zhu{e:Nat}(h:e<4):tms ⟨16,e⟩=3+e:=by unfold tms;rw[if_neg (fun q=>by have:=q.1;simp at this),if_pos ⟨rfl,h⟩]
theorem zht{e:Nat}(h:e<8):tms ⟨17,e⟩=3+e:=by unfold tms;rw[if_neg (fun q=>by have:=q.1;simp at this),if_neg (fun q=>by have:=q.1;simp at this),if_pos ⟨rfl,h⟩]
theorem zhs{e:Nat}(h:e<128):tms ⟨18,e⟩=11+e:=by unfold tms;rw[if_neg (fun q=>by have:=q.1;simp at this),if_neg (fun q=>by have:=q.1;simp at this),if_neg (fun q=>by have:=q.1;simp at this),if_pos ⟨rfl,h⟩]
def zrs(n:Nat):List Rn:=
 if h:11≤n then⟨18,min n 138 - 11⟩::zrs (n - min n 138) else if 3≤n then[⟨17,n - 3⟩] else List.replicate n ⟨0,0⟩
termination_by n
decreasing_by omega
theorem z1n{n:Nat}(h:11≤n):zrs n=⟨18,min n 138 - 11⟩::zrs (n - min n 138):=by rw[zrs,dif_pos h]
theorem z1m{n:Nat}(h:¬11≤n)(h3:3≤n):zrs n=[⟨17,n - 3⟩]:=by rw[zrs,dif_neg h,if_pos h3]
theorem z17{n:Nat}(h3:¬3≤n):zrs n=List.replicate n ⟨0,0⟩:=by rw[zrs,dif_neg (by omega),if_neg h3]
def z6H(v n:Nat):List Rn:=
 if h:3≤n then⟨16,min n 6 - 3⟩::z6H v (n - min n 6) else List.replicate n ⟨v,0⟩
termination_by n
decreasing_by omega
theorem z11{v n:Nat}(h:3≤n):z6H v n=⟨16,min n 6 - 3⟩::z6H v (n - min n 6):=by rw[z6H,dif_pos h]
theorem z0L{v n:Nat}(h:¬3≤n):z6H v n=List.replicate n ⟨v,0⟩:=by rw[z6H,dif_neg h]
def oth(v n:Nat):List Rn:=⟨v,0⟩::z6H v (n - 1)
def ru(v:Nat):List Nat→Nat
 |[]=>0
 |x::l=>if x=v then ru v l+1 else 0
theorem za8(v:Nat):∀l,ru v l≤l.length
 |[]=>qR
 |x::l=>by unfold ru;split;simp only[qC];have:=za8 v l;omega;exact qZ
theorem za7(v:Nat):∀l,l.take (ru v l)=List.replicate (ru v l) v
 |[]=>rfl
 |x::l=>by
  unfold ru
  split
  · rename_i h;rw[List.take_succ_cons,za7 v l,h,List.replicate_succ]
  · rfl
def one(v n:Nat):List Rn:=if v=0 then zrs n else oth v n
def pk:List Nat→List Rn
 |[]=> []
 |v::l=>one v (ru v l+1)++pk (l.drop (ru v l))
termination_by l=>l.length
decreasing_by rw[List.length_drop,qC];omega
theorem z4b:pk []=[]:=by rw[pk]
theorem z2g(v:Nat)(l:List Nat):pk (v::l)=one v (ru v l+1)++pk (l.drop (ru v l)):=by rw[pk]
theorem z9F(n:Nat):(zrs n).length≤n:=by
 induction n using Nat.strongRecOn with
 |_ n ih=>
  by_cases h:11≤n
  · rw[z1n h,qC];have:=ih (n - min n 138) (by omega);omega
  · by_cases h3:3≤n
    · rw[z1m h h3,List.length_singleton];omega
    · rw[z17 h3,List.length_replicate];exact qR
theorem z7R(v n:Nat):(z6H v n).length≤n:=by
 induction n using Nat.strongRecOn with
 |_ n ih=>
  by_cases h:3≤n
  · rw[z11 h,qC];have:=ih (n - min n 6) (by omega);omega
  · rw[z0L h,List.length_replicate];exact qR
theorem zaS(v n:Nat)(hn:1≤n):(one v n).length≤n:=by
 unfold one
 split
 · exact z9F n
 · unfold oth;rw[qC];have:=z7R v (n - 1);omega
theorem z4c:∀l,(pk l).length≤l.length:=by
 intro l;generalize hn:l.length=n
 induction n using Nat.strongRecOn generalizing l with
 |_ n ih=>
  cases l with
  |nil=>rw[z4b];exact qZ
  |cons v l=>
   rw[z2g,qA];have h1:=zaS v (ru v l+1) (by omega);have h2:=za8 v l;rw[qC] at hn;have h3:=ih (l.drop (ru v l)).length (by rw[List.length_drop];omega) _ rfl;rw[List.length_drop] at h3;omega
def vlr(out:List Nat)(r:Rn):Nat:=if r.s=16 then out.getLastD 0 else if 16<r.s then 0 else r.s
def unp(n:Nat)(out:List Nat):List Rn→Int×List Nat
 |[]=>if out.length<n then(7,[]) else(0,out)
 |r::L=>if tms r=0 then(2,[]) else if r.s=16∧out=[] then(7,[]) else if n<out.length+tms r then(7,[]) else unp n (out++List.replicate (tms r) (vlr out r)) L
section
variable {n:Nat} {out:List Nat} {r:Rn} {L:List Rn}
theorem z7n(h:tms r≠0)(h1:¬(r.s=16∧out=[]))(h2:¬n<out.length+tms r):unp n out (r::L)=unp n (out++List.replicate (tms r) (vlr out r)) L:=by rw[unp,if_neg h,if_neg h1,if_neg h2]
end
theorem z9O{n v:Nat}{out:List Nat}{L:List Rn}(hv:v<16)(h:out.length+1≤n):unp n out (⟨v,0⟩::L)=unp n (out++[v]) L:=by
 have ht:=zfB hv;rw[z7n (by rw[ht];decide) (fun q=>by have:=q.1;simp only at this;omega) (by rw[ht];omega),ht];have:vlr out ⟨v,0⟩=v:=by unfold vlr;simp only;rw[if_neg (by omega),if_neg (by omega)]
 rw[this];rfl
theorem z4x{n v:Nat}{L:List Rn}(hv:v<16):∀k out,out.length+k≤n→unp n out (List.replicate k ⟨v,0⟩++L)=unp n (out++List.replicate k v) L
 |0,out,_=>by simp
 |k+1,out,h=>by
  rw[List.replicate_succ,List.cons_append,z9O hv (by omega),z4x hv k _ (by rw[qA,List.length_singleton];omega),qD,List.replicate_succ];rfl
theorem zal(a b v:Nat):List.replicate a v++List.replicate b v=List.replicate (a+b) v:=List.replicate_append_replicate
theorem zfw{n:Nat}{L:List Rn}:∀k out,out.length+k≤n→unp n out (zrs k++L)=unp n (out++List.replicate k 0) L:=by
 intro k
 induction k using Nat.strongRecOn with
 |_ k ih=>
  intro out h;by_cases h11:11≤k
  · have ht:tms ⟨18,min k 138 - 11⟩=min k 138:=by rw[zhs (by omega)];omega
    rw[z1n h11,List.cons_append,z7n (by rw[ht];omega) (fun q=>by have:=q.1;simp at this) (by rw[ht];omega),ht];have:vlr out ⟨18,min k 138 - 11⟩=0:=by unfold vlr;simp
    rw[this,ih (k - min k 138) (by omega) _ (by rw[qA,List.length_replicate];omega),qD,zal,show min k 138+(k - min k 138)=k by omega]
  · by_cases h3:3≤k
    · have ht:tms ⟨17,k - 3⟩=k:=by rw[zht (by omega)];omega
      rw[z1m h11 h3,List.singleton_append,z7n (by rw[ht];omega) (fun q=>by have:=q.1;simp at this) (by rw[ht];omega),ht];have:vlr out ⟨17,k - 3⟩=0:=by unfold vlr;simp
      rw[this]
    · rw[z17 h3,z4x (by omega) k out h]
theorem zcA{n v:Nat}{L:List Rn}(hv:v<16):∀k out,out.getLastD 0=v→out≠[]→out.length+k≤n→unp n out (z6H v k++L)=unp n (out++List.replicate k v) L:=by
 intro k
 induction k using Nat.strongRecOn with
 |_ k ih=>
  intro out hl hne h;by_cases h3:3≤k
  · have ht:tms ⟨16,min k 6 - 3⟩=min k 6:=by rw[zhu (by omega)];omega
    rw[z11 h3,List.cons_append,z7n (by rw[ht];omega) (fun q=>hne q.2) (by rw[ht];omega),ht];have:vlr out ⟨16,min k 6 - 3⟩=v:=by show(if(16:Nat)=16 then out.getLastD 0 else _)=v;rw[if_pos rfl,hl]
    rw[this,ih (k - min k 6) (by omega) _ ?_ (by simp[hne]) (by rw[qA,List.length_replicate];omega),qD,zal,show min k 6+(k - min k 6)=k by omega];obtain⟨m,hm⟩:∃m,min k 6=m+1:=⟨min k 6 - 1,by omega⟩
    rw[hm,List.replicate_succ',←qD];simp
  · rw[z0L h3,z4x hv k out h]
theorem zfx{n v k:Nat}{L:List Rn}{out:List Nat}(hv:v<16)(hk:1≤k)(h:out.length+k≤n):unp n out (one v k++L)=unp n (out++List.replicate k v) L:=by
 unfold one
 split
 · rename_i e;rw[e];exact zfw k out h
 · unfold oth
   rw[List.cons_append,z9O hv (by omega),zcA hv (k - 1) _ (by simp) (by simp) (by rw[qA,List.length_singleton];omega),qD];obtain⟨m,rfl⟩:∃m,k=m+1:=⟨k - 1,by omega⟩
   rw[Nat.add_sub_cancel,List.replicate_succ];rfl
theorem zhq{n:Nat}{L:List Rn}:∀ (l out:List Nat),(∀v∈l,v<16)→out.length+l.length≤n→unp n out (pk l++L)=unp n (out++l) L:=by
 intro l;generalize hm:l.length=m
 induction m using Nat.strongRecOn generalizing l with
 |_ m ih=>
  intro out hv h;cases l with
  |nil=>rw[z4b,List.nil_append,List.append_nil]
  |cons v l=>
   have h2:=za8 v l;rw[qC] at hm;have h16:v<16:=hv v (by simp);rw[z2g,qD,zfx h16 (by omega) (by omega),ih (l.drop (ru v l)).length (by rw[List.length_drop];omega) _ rfl _ (fun x hx=>hv x (List.mem_cons_of_mem _ (List.mem_of_mem_drop hx))) (by rw[qA,List.length_replicate,List.length_drop];omega),qD];congr 2;have h3:l=List.replicate (ru v l) v++l.drop (ru v l):=by rw[←za7,List.take_append_drop]
   rw[List.replicate_succ,List.cons_append,←h3]
structure Stp(l s:Nat→Nat)(m:Nat):Prop where
 next:∀i,i<m→l (i+1)=l i+s i
 pos:∀i,i≤m→0<s i
def fdn(l:Nat→Nat)(n:Nat):Nat→Nat
 |0=>0
 |k+1=>if l (k+1)≤n then k+1 else fdn l n k
section
variable {l s:Nat→Nat} {m:Nat}
theorem zbD(l:Nat→Nat)(n:Nat):∀k,fdn l n k≤k
 |0=>qR
 |k+1=>by unfold fdn;split;exact qR;exact Nat.le_succ_of_le (zbD l n k)
theorem zbC{n:Nat}(h0:l 0≤n):∀k,l (fdn l n k)≤n
 |0=>h0
 |k+1=>by unfold fdn;split;assumption;exact zbC h0 k
theorem z8f{n:Nat}:∀k i,fdn l n k<i→i≤k→n<l i
 |0,i,h1,h2=>by unfold fdn at h1;omega
 |k+1,i,h1,h2=>by
  unfold fdn at h1
  split at h1
  · omega
  · by_cases e:i=k+1
    · subst e;omega
    · exact z8f k i h1 (by omega)
theorem Stp.mono(h:Stp l s m):∀i j,i<j→j≤m→l i+s i≤l j
 |i,0,hij,_=>by omega
 |i,j+1,hij,hj=>by
  by_cases e:i=j
  · subst e;exact Nat.le_of_eq (h.next i (by omega)).symm
  · have:=h.mono i j (by omega) (by omega)
    have:=h.next j (by omega)
    omega
theorem Stp.inn(h:Stp l s m){n:Nat}(h0:l 0≤n)(h1:n<l m+s m):fdn l n m≤m∧l (fdn l n m)≤n∧n<l (fdn l n m)+s (fdn l n m):=by
 refine⟨zbD l n m,zbC h0 m,?_⟩;by_cases e:fdn l n m=m
 · rw[e];exact h1
 · have hl:=zbD l n m
   have:=h.next (fdn l n m) (by omega)
   have:=z8f (l:=l) (n:=n) m (fdn l n m+1) (by omega) (by omega);omega
theorem Stp.uniq(h:Stp l s m){n i:Nat}(hi:i≤m)(h0:l i≤n)(h1:n<l i+s i):fdn l n m=i:=by
 have hl0:l 0≤l i:=by
  by_cases e:i=0
  · subst e;exact qR
  · have:=h.mono 0 i (by omega) hi;omega
 have hlm:l i+s i≤l m+s m:=by
  by_cases e:i=m
  · subst e;exact qR
  · have:=h.mono i m (by omega) qR;omega
 obtain⟨h2,h3,h4⟩:=h.inn (n:=n) (by omega) (by omega);rcases Nat.lt_trichotomy (fdn l n m) i with q|q|q
 · have:=h.mono _ _ q hi;omega
 · exact q
 · have:=h.mono _ _ q h2;omega
end
def lls:List Nat:=[3,4,5,6,7,8,9,10,11,13,15,17,19,23,27,31,35,43,51,59,67,83,99,115,131,163,195,227,258]
def ll(i:Nat):Nat:=lls.getD i 0
def lb(i:Nat):Nat:=if i<8∨i=28 then 0 else(i - 4) /4
def ls(i:Nat):Nat:=if i=27 then 31 else 2^lb i
theorem zbd:Stp ll ls 28:=⟨by decide,by decide⟩
theorem zi8:∀i,i≤28→lb i≤5:=by decide
theorem zj4:∀i,i≤28→ll i≤258:=by decide
theorem zj3{i:Nat}(hi:i≤28):ls i≤2^lb i:=by
 unfold ls;split
 · rename_i h;subst h;decide
 · exact qR
def lsy(n:Nat):Nat:=fdn ll n 28
def lex(n:Nat):Nat:=n - ll (lsy n)
theorem z5Z{n:Nat}(h:3≤n∧n≤258):lsy n≤28∧ll (lsy n)≤n∧n<ll (lsy n)+ls (lsy n):=zbd.inn h.1 (by show n<258+1;omega)
theorem zdK{n i:Nat}(hi:i≤28)(h0:ll i≤n)(h1:n<ll i+ls i):lsy n=i:=zbd.uniq hi h0 h1
def dls:List Nat:=[1,2,3,4,5,7,9,13,17,25,33,49,65,97,129,193,257,385,513,769,1025,1537,2049,3073,4097,6145,8193,12289,16385,24577]
def dl(i:Nat):Nat:=dls.getD i 0
def db(i:Nat):Nat:=if i<4 then 0 else(i - 2) /2
def ds(i:Nat):Nat:=2^db i
theorem zbK:Stp dl ds 29:=⟨by decide,by decide⟩
theorem zij:∀i,i≤29→db i≤13:=by decide
theorem zja:∀i,i≤29→dl i≤24577:=by decide
def dsy(n:Nat):Nat:=fdn dl n 29
def dex(n:Nat):Nat:=n - dl (dsy n)
theorem z3i{n:Nat}(h:1≤n∧n≤32768):dsy n≤29∧dl (dsy n)≤n∧n<dl (dsy n)+ds (dsy n):=zbK.inn h.1 (by show n<24577+8192;omega)
theorem zbL{n i:Nat}(hi:i≤29)(h0:dl i≤n)(h1:n<dl i+ds i):dsy n=i:=zbK.uniq hi h0 h1
end Go.Proofs.YtacelhaidcmbcaaGreatDoor.M
