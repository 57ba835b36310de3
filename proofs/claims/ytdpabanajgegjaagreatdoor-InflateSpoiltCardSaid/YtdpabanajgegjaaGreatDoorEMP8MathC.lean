/- Texts of one place, one behind the other: P8MathC, P8TkK, P8MathG, P8RfA, P8RfB. -/
import Derived.Test.YtdpabanajgegjaaGreatDoorEP8Cpy
import Derived.Lib.Hide
import Derived.Test.YtdpabanajgegjaaGreatDoorEMMathT
import Derived.Test.YtdpabanajgegjaaGreatDoorEMRns
import Derived.Test.YtdpabanajgegjaaGreatDoorChecked
import Derived.KernelRfl
import Derived.Deep.OwnRows
import Derived.WalkKit
import Derived.Deep.Slices
import Derived.Deep.Fields
import Derived.SizedLaws
import Derived.Laws.IdiomStrings
import Derived.Lib.ConvBytes
import Derived.ArgAppend
import Derived.Laws.OwnMore
import Derived.Deep.AppendLies
import Derived.RangeFuncOwn
import Derived.Outline
import Derived.Deep.RegionLaw
import Derived.RegionTactic
import Derived.BigRegion
import Derived.BigQuiet
import Derived.Deep.QuietTactic
import Derived.ChangeAlike
import Derived.Laws.Cells
import Derived.WalkSpells
import Derived.WalkMore
import Derived.IntWalk
import Derived.Laws.StructEq
import Derived.OwnWalk
set_option maxRecDepth 1000000
set_option linter.unusedVariables false
set_option linter.unusedSimpArgs false
namespace Go.Proofs.YtdpabanajgegjaaGreatDoor.V.Px
def byt(s:ByteArray)(i:Nat):Nat:=(s.data.toList.getD i 0).toNat
theorem byt_eq{s:ByteArray}{i:Nat}(h:i<s.size):(s[i]'h).toNat=byt s i:=by
 unfold byt;have h':i<s.data.toList.length:=by simpa using h
 rw[List.getD,List.getElem?_eq_getElem h'];rfl
theorem byt_lt(s:ByteArray)(i:Nat):byt s i≤255:=by
 unfold byt;have:=(s.data.toList.getD i 0).toNat_lt;omega
def lg(s:ByteArray)(p k:Nat):Nat→Nat→Nat
 |0,n=>n
 |f+1,n=>if byt s (p+n)=byt s (k+n) then lg s p k f (n+1) else n
def most(s:ByteArray)(k:Nat):Nat:=min 258 (s.size - k)
def lng(s:ByteArray)(p k:Nat):Nat:=lg s p k (most s k) 0
structure IsLng(s:ByteArray)(p k n:Nat):Prop where
 le:n≤most s k
 same:∀i,i<n→byt s (p+i)=byt s (k+i)
 stop:n=most s k∨byt s (p+n)≠byt s (k+n)
theorem lg_is(s:ByteArray)(p k:Nat):∀f n,(∀i,i<n→byt s (p+i)=byt s (k+i))→f+n=most s k→IsLng s p k (lg s p k f n)
 |0,n,h,e=>⟨by unfold lg;omega,h,.inl (by unfold lg;omega)⟩
 |f+1,n,h,e=>by
  unfold lg;by_cases c:byt s (p+n)=byt s (k+n)
  · rw[if_pos c]
    refine lg_is s p k f (n+1) (fun i hi=> ?_) (by omega);by_cases g:i=n
    · subst g;exact c
    · exact h i (by omega)
  · rw[if_neg c]
    exact⟨by omega,h,.inr c⟩
theorem lng_is(s:ByteArray)(p k:Nat):IsLng s p k (lng s p k):=lg_is s p k _ 0 (fun i hi=>by omega) (by omega)
theorem lng_le(s:ByteArray)(p k:Nat):lng s p k≤258∧lng s p k≤s.size - k:=by
 have:=(lng_is s p k).le;unfold most at this;omega
def at3(s:ByteArray)(p a b c:Nat):Bool:=decide (p+3≤s.size)&& (byt s p==a&& (byt s (p+1)==b&&byt s (p+2)==c))
theorem at3_iff{s:ByteArray}{p a b c:Nat}:at3 s p a b c=true↔p+3≤s.size∧byt s p=a∧byt s (p+1)=b∧byt s (p+2)=c:=by
 unfold at3;simp
def grp(s:ByteArray)(L:List Nat)(a b c:Nat):List Nat:=L.filter fun p=>at3 s p a b c
def cnd(s:ByteArray)(L:List Nat)(k:Nat):List Nat:=
 if k+3≤s.size then(grp s L (byt s k) (byt s (k+1)) (byt s (k+2))).filter (fun p=>decide (p<k)&&decide (k≤p+32768)) else[]
def nr(s:ByteArray)(L:List Nat)(k:Nat)(d:Int):List Nat:=(cnd s L k).reverse.take d.toNat
theorem cnd_mem{s:ByteArray}{L:List Nat}{k p:Nat}(h:p∈cnd s L k):p∈L∧p<k∧k≤p+32768∧k+3≤s.size∧byt s p=byt s k∧byt s (p+1)=byt s (k+1)∧byt s (p+2)=byt s (k+2):=by
 unfold cnd at h;by_cases c:k+3≤s.size
 · rw[if_pos c] at h
   obtain⟨h1,h2⟩:=List.mem_filter.1 h;unfold grp at h1;obtain⟨h3,h4⟩:=List.mem_filter.1 h1;have h5:=at3_iff.1 h4;simp at h2;exact⟨h3,h2.1,h2.2,c,h5.2⟩
 · rw[if_neg c] at h;cases h
theorem nr_mem{s:ByteArray}{L:List Nat}{k p:Nat}{d:Int}(h:p∈nr s L k d):p∈cnd s L k:=by
 unfold nr at h;exact List.mem_reverse.1 (List.mem_of_mem_take h)
theorem cnd_long{s:ByteArray}{L:List Nat}{k p:Nat}(h:p∈cnd s L k):3≤lng s p k:=by
 obtain⟨_,_,_,h1,h2,h3,h4⟩:=cnd_mem h;have h5:=lng_is s p k;rcases h5.stop with e|e
 · rw[e];unfold most;omega
 · apply Classical.byContradiction
   intro g;have:lng s p k=0∨lng s p k=1∨lng s p k=2:=by omega
   rcases this with g|g|g<;>rw[g] at e<;>exact e (by assumption)
theorem filt_take{l:List Nat}{i x:Nat}(h1:∀j y,l[j]? =some y→j<i→y<x)(h2:∀j y,l[j]? =some y→i≤j→x≤y):l.filter (fun p=>decide (p<x))=l.take i:=by
 rw[←List.take_append_drop i l,List.filter_append,List.take_append_drop]
 have e1:(l.take i).filter (fun p=>decide (p<x))=l.take i:=by
  rw[List.filter_eq_self];intro y hy;obtain⟨j,hj⟩:=List.mem_iff_getElem?.1 hy;rw[List.getElem?_take] at hj;by_cases c:j<i
  · rw[if_pos c] at hj;simpa using h1 j y hj c
  · rw[if_neg c] at hj;cases hj
 have e2:(l.drop i).filter (fun p=>decide (p<x))=[]:=by
  rw[List.filter_eq_nil_iff];intro y hy;obtain⟨j,hj⟩:=List.mem_iff_getElem?.1 hy;rw[List.getElem?_drop] at hj;have:=h2 _ y hj (by omega);simp;omega
 rw[e1,e2,List.append_nil]
theorem nr_len(s:ByteArray)(L:List Nat)(k:Nat)(d:Int):(nr s L k d).length=min d.toNat (cnd s L k).length:=by
 unfold nr;rw[List.length_take,List.length_reverse]
def stp(s:ByteArray)(k:Nat)(over:Int)(m:Nat×Nat)(p:Nat):Nat×Nat:=if over<(lng s p k:Int)∧m.1<lng s p k then(lng s p k,k - p) else m
def fnd(s:ByteArray)(k:Nat)(nice over:Int):List Nat→Nat×Nat→Nat×Nat
 |[],m=>m
 |p::r,m=>if nice≤(lng s p k:Int) then stp s k over m p else fnd s k nice over r (stp s k over m p)
theorem fnd_one(s:ByteArray)(k:Nat)(nice over:Int):∀ (l:List Nat) (m:Nat×Nat),fnd s k nice over l m=m∨∃p,p∈l∧fnd s k nice over l m=(lng s p k,k - p)∧over<(lng s p k:Int)
 |[],m=> .inl rfl
 |p::r,m=>by
  have hs:stp s k over m p=m∨(stp s k over m p=(lng s p k,k - p)∧over<(lng s p k:Int)):=by
   unfold stp;by_cases c:over<(lng s p k:Int)∧m.1<lng s p k
   · rw[if_pos c];exact .inr ⟨rfl,c.1⟩
   · rw[if_neg c];exact .inl rfl
  unfold fnd;by_cases c:nice≤(lng s p k:Int)
  · rw[if_pos c]
    rcases hs with h|⟨h,h'⟩
    · exact .inl h
    · exact .inr ⟨p,by simp,h,h'⟩
  · rw[if_neg c]
    rcases fnd_one s k nice over r (stp s k over m p) with h|⟨q,hq,h,h'⟩
    · rw[h]
      rcases hs with g|⟨g,g'⟩
      · exact .inl g
      · exact .inr ⟨p,by simp,g,g'⟩
    · exact .inr ⟨q,by simp[hq],h,h'⟩
end Go.Proofs.YtdpabanajgegjaaGreatDoor.V.Px
namespace Go.Proofs.YtdpabanajgegjaaGreatDoor.V.Px
open Go Go.RowKit M
theorem _root_.Go.Proofs.YtdpabanajgegjaaGreatDoor.V.Tk.ok_of{l n d:Int}(h1:0≤l∧l≤255)(h2:0≤n∧n≤1000000)(h3:0≤d∧d≤1000000):Tk.ok ⟨l,n,d⟩:=⟨h1,⟨by show _≤n;omega,by show n≤_;omega⟩,⟨by show _≤d;omega,by show d≤_;omega⟩⟩
def clt:List Tk→List Value
 |[]=> []
 |t::l=> .int .u8 t.l::.int .i64 t.n::.int .i64 t.d::clt l
theorem clt_length:∀l,(clt l).length=l.length*3
 |[]=>rfl
 |t::l=>by simp only[clt,List.length_cons];rw[clt_length l];omega
theorem clt_at:∀ (l:List Tk) (i:Nat) (t:Tk),l[i]? =some t→(clt l)[i*3]? =some (.int .u8 t.l)∧(clt l)[i*3+1]? =some (.int .i64 t.n)∧(clt l)[i*3+2]? =some (.int .i64 t.d)
 |[],i,t,h=>by simp at h
 |a::l,0,t,h=>by simp at h;subst h;simp[clt]
 |a::l,i+1,t,h=>by
  rw[List.getElem?_cons_succ] at h;obtain⟨h1,h2,h3⟩:=clt_at l i t h;simp only[clt];refine⟨?_,?_,?_⟩
  · rw[show(i+1)*3=i*3+1+1+1 by omega];simpa using h1
  · rw[show(i+1)*3+1=i*3+1+1+1+1 by omega];simpa using h2
  · rw[show(i+1)*3+2=i*3+2+1+1+1 by omega];simpa using h3
theorem IsTks.of_own{w:World}{B n:Nat}{v:Value}{L:List Tk}(h:w.ownsRow B 67 3 v n (clt L))(hok:∀c∈L,c.ok)(hm:n≤maxLen):∃A c,v=.slice A n c∧IsTks w A n L:=by
 have hl:L.length=n:=by have:=h.1;rw[clt_length] at this;omega
 have hc:=fun g (hg:v.ownBlock=some g)=>h.cells hg
 rcases h.2 with⟨rfl,rfl⟩|⟨g,cap,cur,rfl,_,hh,_⟩
 · exact⟨none,0,rfl,hl,hm,hok,.inl rfl⟩
 · refine⟨_,cap,rfl,hl,hm,hok,.inr ⟨g,0,rfl,(Array.getElem?_eq_some_iff.1 hh).1,fun i t ht=> ?_⟩⟩
   obtain⟨h1,h2,h3⟩:=clt_at L i t ht;have k:=fun j u hu=>hc g rfl j u hu
   simp only[cadd_at] at k;exact⟨k _ _ h1,k _ _ h2,k _ _ h3⟩
end Go.Proofs.YtdpabanajgegjaaGreatDoor.V.Px
namespace Go.Proofs.YtdpabanajgegjaaGreatDoor.V.Px
structure Lv where
 d:Nat
 n:Nat
 z:Nat
def mt(s:ByteArray)(r:Lv)(k:Nat)(over:Int):Nat×Nat:=fnd s k r.n over (nr s (List.range k) k r.d) (0,0)
structure Mt(s:ByteArray)(k:Nat)(m:Nat×Nat):Prop where
 len:3≤m.1∧m.1≤258
 fits:k+m.1≤s.size
 dist:1≤m.2∧m.2≤32768
 back:m.2≤k
 same:∀i,i<m.1→byt s (k - m.2+i)=byt s (k+i)
theorem mt_is{s:ByteArray}{r:Lv}{k:Nat}{over:Int}(h:(mt s r k over).1≠0):Mt s k (mt s r k over)∧over<((mt s r k over).1:Int):=by
 unfold mt at h ⊢;rcases fnd_one s k r.n over (nr s (List.range k) k r.d) (0,0) with e|⟨p,hp,e,ho⟩
 · rw[e] at h;exact absurd rfl h
 · have hc:=nr_mem hp
   obtain⟨_,h1,h2,h3,_⟩:=cnd_mem hc;have h4:=cnd_long hc;have h5:=lng_le s p k;have h6:=(lng_is s p k).same;rw[e];refine⟨⟨⟨h4,h5.1⟩,by simp only;omega,⟨by simp only;omega,by simp only;omega⟩,by simp only;omega,fun i hi=> ?_⟩,ho⟩;simp only at hi ⊢;rw[show k - (k - p)+i=p+i by omega];exact h6 i hi
def lit(s:ByteArray)(k:Nat):Tk:=⟨byt s k,0,0⟩
def mtk(m:Nat×Nat):Tk:=⟨0,m.1,m.2⟩
def G(s:ByteArray)(r:Lv)(k:Nat)(m:Nat×Nat):List Tk:=
 if hk:k<s.size then
  if hm:m.1=0 then
   if hq:(mt s r k 2).1=0 then lit s k::G s r (k+1) (0,0) else G s r k (mt s r k 2)
  else if m.1<r.z∧k+1<s.size then
   if(mt s r (k+1) m.1).1=0 then mtk m::G s r (k+m.1) (0,0) else lit s k::G s r (k+1) (mt s r (k+1) m.1)
  else mtk m::G s r (k+m.1) (0,0)
 else[]
termination_by (s.size - k,if m.1=0 then 1 else 0)
decreasing_by
 · apply Prod.Lex.left;omega
 · rw[if_pos hm,if_neg hq];apply Prod.Lex.right;omega
 · apply Prod.Lex.left;omega
 · apply Prod.Lex.left;omega
 · apply Prod.Lex.left;omega
section
variable {s:ByteArray} {r:Lv} {k:Nat} {m:Nat×Nat}
theorem G_end(h:s.size≤k):G s r k m=[]:=by rw[G,dif_neg (by omega)]
theorem G_lit(h:k<s.size)(hm:m.1=0)(hq:(mt s r k 2).1=0):G s r k m=lit s k::G s r (k+1) (0,0):=by rw[G,dif_pos h,dif_pos hm,dif_pos hq]
theorem G_look(h:k<s.size)(hm:m.1=0)(hq:(mt s r k 2).1≠0):G s r k m=G s r k (mt s r k 2):=by rw[G,dif_pos h,dif_pos hm,dif_neg hq]
theorem G_lazy(h:k<s.size)(hm:m.1≠0)(hz:m.1<r.z∧k+1<s.size)(hq:(mt s r (k+1) m.1).1≠0):G s r k m=lit s k::G s r (k+1) (mt s r (k+1) m.1):=by
 rw[G,dif_pos h,dif_neg hm,if_pos hz,if_neg hq]
theorem G_stay(h:k<s.size)(hm:m.1≠0)(hz:m.1<r.z∧k+1<s.size)(hq:(mt s r (k+1) m.1).1=0):G s r k m=mtk m::G s r (k+m.1) (0,0):=by
 rw[G,dif_pos h,dif_neg hm,if_pos hz,if_pos hq]
theorem G_take(h:k<s.size)(hm:m.1≠0)(hz:¬(m.1<r.z∧k+1<s.size)):G s r k m=mtk m::G s r (k+m.1) (0,0):=by
 rw[G,dif_pos h,dif_neg hm,if_neg hz]
end
theorem lit_byte(s:ByteArray)(k:Nat):isB (lit s k)=true:=isB_iff.2 ⟨rfl,rfl⟩
theorem mtk_match{s:ByteArray}{k:Nat}{m:Nat×Nat}(h:Mt s k m):isM (mtk m)=true:=by
 have:=h.len;have:=h.dist;exact isM_iff.2 ⟨rfl,by show(3:Int)≤(m.1:Int);omega,by show(m.1:Int)≤258;omega,by show(1:Int)≤(m.2:Int);omega,by show(m.2:Int)≤32768;omega⟩
theorem G_may(s:ByteArray)(r:Lv)(k:Nat)(m:Nat×Nat)(hm:m.1≠0→Mt s k m):∀t∈G s r k m,may t=true∧(0≤t.l∧t.l≤255)∧(0≤t.n∧t.n≤258)∧(0≤t.d∧t.d≤32768):=by
 have hlit:∀k,may (lit s k)=true∧(0≤(lit s k).l∧(lit s k).l≤255)∧(0≤(lit s k).n∧(lit s k).n≤258)∧(0≤(lit s k).d∧(lit s k).d≤32768):=fun k=>by
  have:=byt_lt s k;refine⟨by unfold may;rw[lit_byte];rfl,⟨?_,?_⟩,⟨Int.le_refl 0,by show(0:Int)≤258;decide⟩,⟨Int.le_refl 0,by show(0:Int)≤32768;decide⟩⟩
  · show(0:Int)≤(byt s k:Int);omega
  · show(byt s k:Int)≤255;omega
 have hmk:∀ {k m},Mt s k m→may (mtk m)=true∧(0≤(mtk m).l∧(mtk m).l≤255)∧(0≤(mtk m).n∧(mtk m).n≤258)∧(0≤(mtk m).d∧(mtk m).d≤32768):=fun {k m} h=>by
  have h1:=h.len;have h2:=h.dist;refine⟨by unfold may;rw[mtk_match h,Bool.or_true],⟨Int.le_refl 0,by show(0:Int)≤255;decide⟩,⟨?_,?_⟩,⟨?_,?_⟩⟩
  · show(0:Int)≤(m.1:Int);omega
  · show(m.1:Int)≤258;omega
  · show(0:Int)≤(m.2:Int);omega
  · show(m.2:Int)≤32768;omega
 induction k,m using G.induct s r with
 |case1 k m hlt hz hq ih=>
  rw[G_lit hlt hz hq];intro t ht;rcases List.mem_cons.1 ht with e|e
  · rw[e];exact hlit k
  · exact ih (fun q=>absurd rfl q) t e
 |case2 k m hlt hz hq ih=>
  rw[G_look hlt hz hq];exact ih (fun q=>(mt_is q).1)
 |case3 k m hlt hz hc hq ih=>
  rw[G_stay hlt hz hc hq];intro t ht;rcases List.mem_cons.1 ht with e|e
  · rw[e];exact hmk (hm hz)
  · exact ih (fun q=>absurd rfl q) t e
 |case4 k m hlt hz hc hq ih=>
  rw[G_lazy hlt hz hc hq];intro t ht;rcases List.mem_cons.1 ht with e|e
  · rw[e];exact hlit k
  · exact ih (fun q=>(mt_is q).1) t e
 |case5 k m hlt hz hc ih=>
  rw[G_take hlt hz hc];intro t ht;rcases List.mem_cons.1 ht with e|e
  · rw[e];exact hmk (hm hz)
  · exact ih (fun q=>absurd rfl q) t e
 |case6 k m hlt=>
  rw[G_end (by omega)];intro t ht;cases ht
theorem G_len(s:ByteArray)(r:Lv)(k:Nat)(m:Nat×Nat)(hm:m.1≠0→Mt s k m):(G s r k m).length≤s.size - k:=by
 induction k,m using G.induct s r with
 |case1 k m hlt hz hq ih=>rw[G_lit hlt hz hq,List.length_cons];have:=ih (fun q=>absurd rfl q);omega
 |case2 k m hlt hz hq ih=>rw[G_look hlt hz hq];exact ih (fun q=>(mt_is q).1)
 |case3 k m hlt hz hc hq ih=>rw[G_stay hlt hz hc hq,List.length_cons];have:=ih (fun q=>absurd rfl q);omega
 |case4 k m hlt hz hc hq ih=>rw[G_lazy hlt hz hc hq,List.length_cons];have:=ih (fun q=>(mt_is q).1);omega
 |case5 k m hlt hz hc ih=>rw[G_take hlt hz hc,List.length_cons];have:=ih (fun q=>absurd rfl q);omega
 |case6 k m hlt=>rw[G_end (by omega)];exact Nat.zero_le _
end Go.Proofs.YtdpabanajgegjaaGreatDoor.V.Px
namespace Go.Proofs.YtdpabanajgegjaaGreatDoor.V.Px
open Go.Lib (hid)
namespace Q
open Go Go.RowKit M
theorem new_at(w:World)(o:Obj):(w.alloc o).heap[w.heap.size]? =some o:=heap_alloc_new w o
theorem old_at{w:World}{i:Nat}{x:Obj}(o:Obj)(h:w.heap[i]? =some x):(w.alloc o).heap[i]? =some x:=(Below.heap_alloc w o i (Array.getElem?_eq_some_iff.1 h).1).trans h
theorem cadd_at(b o j:Nat):(⟨b,o,none⟩:Addr).add j=⟨b,o+j,none⟩:=by
 unfold Addr.add
 split
 · rename_i h;subst h;rfl
 · rfl
theorem info_of{e:TypeId}{z:Value}{size bytes:Nat}(hi:(Tryz.prog.info? e).map (fun i=>(i.zero,i.size,i.bytes))=some (some z,size,bytes)):∃i,Tryz.prog.info? e=some i∧i.zero=some z∧i.size=size∧i.bytes=bytes:=by
 cases hq: Tryz.prog.info? e with
 |none=>rw[hq] at hi;cases hi
 |some i=>rw[hq] at hi;simp at hi;exact⟨i,rfl,hi.1,hi.2.1,hi.2.2⟩
def B3(w:World)(T:TypeId)(g:Nat)(x y z:Value):Prop:=w.heap[g]? =some (.cells #[x,y,z] T (0,0))
section
variable {w w':World} {T:TypeId} {g:Nat} {x y z:Value}
theorem B3.at0(h:B3 w T g x y z):w.cell? ⟨g,0,none⟩=some x:=by unfold B3 at h;simp[World.cell?,h]
theorem B3.at1(h:B3 w T g x y z):w.cell? ⟨g,1,none⟩=some y:=by unfold B3 at h;simp[World.cell?,h]
theorem B3.at2(h:B3 w T g x y z):w.cell? ⟨g,2,none⟩=some z:=by unfold B3 at h;simp[World.cell?,h]
theorem B3.free(h:B3 w T g x y z)(i:Nat):w.frozen? ⟨g,i,none⟩=false:=by unfold B3 at h;simp[World.frozen?,h]
theorem B3.lt(h:B3 w T g x y z):g<w.heap.size:=(Array.getElem?_eq_some_iff.1 h).1
theorem B3.of_block(h:B3 w T g x y z)(e:w'.heap[g]? =w.heap[g]?):B3 w' T g x y z:=e.trans h
theorem B3.set2(h:B3 w T g x y z)(v:Value):B3 (w.setCell ⟨g,2,none⟩ v) T g x y v:=by
 unfold B3 at h ⊢;rw[setCell_eq_setRow w g 2 #[x,y,z] T (0,0) v h];exact setRow_heap w g #[x,y,z] #[x,y,v] T (0,0) h
end
def B2(w:World)(T:TypeId)(g:Nat)(x y:Value):Prop:=w.heap[g]? =some (.cells #[x,y] T (0,0))
section
variable {w w':World} {T:TypeId} {g:Nat} {x y:Value}
theorem B2.at0(h:B2 w T g x y):w.cell? ⟨g,0,none⟩=some x:=by unfold B2 at h;simp[World.cell?,h]
theorem B2.at1(h:B2 w T g x y):w.cell? ⟨g,1,none⟩=some y:=by unfold B2 at h;simp[World.cell?,h]
theorem B2.free(h:B2 w T g x y)(i:Nat):w.frozen? ⟨g,i,none⟩=false:=by unfold B2 at h;simp[World.frozen?,h]
theorem B2.lt(h:B2 w T g x y):g<w.heap.size:=(Array.getElem?_eq_some_iff.1 h).1
theorem B2.of_block(h:B2 w T g x y)(e:w'.heap[g]? =w.heap[g]?):B2 w' T g x y:=e.trans h
theorem B2.set(h:B2 w T g x y)(u v:Value):B2 ((w.setCell ⟨g,0,none⟩ u).setCell ⟨g,1,none⟩ v) T g u v:=by
 unfold B2 at h ⊢
 have h1:(w.setCell ⟨g,0,none⟩ u).heap[g]? =some (.cells #[u,y] T (0,0)):=by
  rw[setCell_eq_setRow w g 0 #[x,y] T (0,0) u h];exact setRow_heap w g #[x,y] #[u,y] T (0,0) h
 rw[setCell_eq_setRow _ g 1 #[u,y] T (0,0) v h1];exact setRow_heap _ g #[u,y] #[u,v] T (0,0) h1
end
structure Rf(w:World)(B F b:Nat)(s:ByteArray)(k:Nat):Prop where
 fd:B3 w 112 F (.string s) (.slice (some ⟨b,0,none⟩) s.size s.size) (.int .i64 ((k:Int) - 1))
 row:w.rowIs b 4 s.size (fun j=> .bool (decide (j<k)))
 ne:F≠b
 hF:B≤F
 hb:B≤b
 le:k≤s.size
 len:s.size≤2000000
section
variable {w w':World} {B F b k:Nat} {s:ByteArray}
theorem Rf.of_blocks(h:Rf w B F b s k)(e1:w'.heap[F]? =w.heap[F]?)(e2:w'.heap[b]? =w.heap[b]?):Rf w' B F b s k:=
 ⟨h.fd.of_block e1,World.rowIs.of_block h.row e2,h.ne,h.hF,h.hb,h.le,h.len⟩
theorem Rf.below(h:Rf w B F b s k)(hb:Below w.heap.size w w'):Rf w' B F b s k:=h.of_blocks (hb.block F h.fd.lt) (hb.block b (World.rowIs.lt h.row))
theorem Rf.base(h:Rf w B F b s k){B':Nat}(hB:B'≤B):Rf w B' F b s k:=⟨h.fd,h.row,h.ne,Nat.le_trans hB h.hF,Nat.le_trans hB h.hb,h.le,h.len⟩
end
theorem boolInfo:(Tryz.prog.info? 4).map (fun i=>(i.zero,i.size,i.bytes))=some (some (.bool false),1,1):=by kernel_rfl
theorem made(w:World)(n:Nat)(hn:n≤2000000):(Instr.makeSlice 110 (.int .i64 (n:Int)) (.int .i64 (n:Int))).run Tryz.prog w=.ok (.slice (some ⟨w.heap.size,0,none⟩) n n) (w.alloc (.cells (madeCells #[.bool false] n) 4)):=by
 obtain⟨i,h1,h2,h3,h4⟩:=info_of boolInfo;exact run_make_row 110 4 i _ Tryz.underlying110 h1 h2 h3 rfl .i64 .i64 n (by rw[h4];omega) (by omega) w
theorem rnew_any(s:ByteArray)(w:World)(hs:s.size≤2000000):
 Calls Tryz.prog 36 #[.string s] w fun e w'=>e=.returned (.pointer (some ⟨w.heap.size+1,0,none⟩))∧Rf w' w.heap.size (w.heap.size+1) w.heap.size s 0∧Below w.heap.size w w':=by
 obtain⟨n,hn⟩:∃n,s.size=n:=⟨_,rfl⟩
 have hn1:(s.size:Int)=(n:Int):=by rw[hn]
 have hn2:n≤2000000:=by omega
 have hmk:=made w n hn2;have HN:=hid hn;clear hn hs;go_enter Tryz.func36,Tryz.ntmps36;go_wp2_with fail;go_ret;have hn:=HN.out;refine⟨rfl,⟨?_,?_,by omega,by omega,Nat.le_refl _,Nat.zero_le _,by omega⟩,((Below.refl _ _).alloc (Nat.le_refl _) _).alloc (by simp) _⟩
 · have:=new_at (w.alloc (.cells (madeCells #[.bool false] n) 4)) (.cells #[.string s,.slice (some ⟨w.heap.size,0,none⟩) n n,.int .i64 (-1)] 112)
   rw[World.size_alloc] at this;rw[hn];exact this
 · rw[hn]
   exact World.rowIs.alloc ((World.rowIs_made w (.bool false) n 4).congr (fun i hi=>by rw[decide_eq_false (by omega)])) _
theorem rput_any{w:World}{B F b k:Nat}{s:ByteArray}(h:Rf w B F b s k)(hk:k<s.size):
 Calls Tryz.prog 58 #[.pointer (some ⟨F,0,none⟩),.int .i64 k] w fun e w'=>e=.returned (.int .i64 0)∧Rf w' B F b s (k+1)∧Kept (fun j=>j=F∨j=b) w w':=by
 have c0:=h.fd.at0;have c1:=h.fd.at1;have c2:=h.fd.at2;have f2:=h.fd.free 2;have hlen:=h.len;have hck:=World.rowIs.cell h.row (i:=k) hk;have hfk:=World.rowIs.frozen h.row k;obtain⟨n,hn⟩:∃n,s.size=n:=⟨_,rfl⟩
 have hn1:(s.size:Int)=(n:Int):=by rw[hn]
 rw[hn] at c1 hk;have hk9:k<9223372036854775807:=by omega
 have d1:decide ((n:Int)≤(k:Int))=false:=decide_eq_false (by omega);have d1':decide (n≤k)=false:=decide_eq_false (by omega);have d2:decide ((k:Int)≤(k:Int) - 1)=false:=decide_eq_false (by omega);have hne:=h.ne;have hne':b≠F:=fun e=>h.ne e.symm
 have HH:=hid h;have HN:=hid hn;clear h hn;go_enter Tryz.func58,Tryz.ntmps58;go_wp2_with fail;go_ret;have hbF:b≠F:=hne';refine⟨rfl,⟨?_,?_,hne,HH.out.hF,HH.out.hb,by rw[HN.out];omega,HH.out.len⟩,((Kept.refl _ w).setCell ⟨b,k,none⟩ (.inl (.inr rfl)) _).setCell ⟨F,2,none⟩ (.inl (.inl rfl)) _⟩
 · have h1:B3 (w.setCell ⟨b,k,none⟩ (.bool true)) 112 F (.string s) (.slice (some ⟨b,0,none⟩) s.size s.size) (.int .i64 ((k:Int) - 1)):=HH.out.fd.of_block (Below.heap_setCell _ _ _ _ (by show F≠b;exact hne))
   have:=h1.set2 (.int .i64 (k:Int));rw[show((k+1:Nat):Int) - 1=(k:Int) by omega];exact this
 · exact World.rowIs.setOther ((World.rowIs.set HH.out.row k (.bool true)).congr (fun j hj=>by
    by_cases c:j=k
    · subst c;rw[if_pos rfl,decide_eq_true (by omega)]
    · rw[if_neg c];congr 1;rw[decide_eq_decide];omega)) (by show b≠F;exact hne') _
end Q
end Go.Proofs.YtdpabanajgegjaaGreatDoor.V.Px
namespace Go.Proofs.YtdpabanajgegjaaGreatDoor.V.Px
open Go.Lib (hid)
namespace Q
open Go Go.RowKit M
set_option maxRecDepth 1000000 in
set_option maxHeartbeats 1000000 in
theorem rlong_any{w:World}{B F b q:Nat}{s:ByteArray}(H:Rf w B F b s q)(p k:Nat)(hp:p<k)(hk:k≤s.size):
 Calls Tryz.prog 96 #[.pointer (some ⟨F,0,none⟩),.int .i64 p,.int .i64 k] w fun e w'=>e=.returned (.int .i64 (lng s p k))∧∃n,w'=w.drewN n:=by
 have h0:=H.fd.at0;have hl:=H.len;obtain⟨ms,hms⟩:∃ms,most s k=ms:=⟨_,rfl⟩
 have hm2:ms≤258∧k+ms≤s.size∧(ms=258∨k+ms=s.size):=by rw[←hms];unfold most;omega
 have HG:=hid (lng_is s p k);have HMS:=hid hms;clear H hms;obtain⟨z,hz⟩:∃z,lng s p k=z:=⟨_,rfl⟩
 rw[hz] at HG ⊢;have hzm:z≤ms:=by have:=HG.out.le;rw[HMS.out] at this;exact this
 clear hz;go_enter Tryz.func96,Tryz.ntmps96;go_wp2_with fail
 go_loopw [7] (fun i wr=> ∃n c:Nat,i=.int .i64 n∧n≤z∧wr=w.drewN c) (fun i _=>z - (intOf i).toNat)
 case atStart=>exact⟨0,0,rfl,Nat.zero_le _,rfl⟩
 case round=>
  obtain⟨n,c,rfl,hn,rfl⟩:=hrel;by_cases c0:n<258
  · have d0:decide (n<258)=true:=decide_eq_true c0
    have d0':decide ((n:Int)<258)=true:=decide_eq_true (by omega);obtain⟨y,hy⟩:∃y,k+n=y:=⟨_,rfl⟩
    have w2:IntKind.i64.wrap ((k:Int)+(n:Int))=(y:Int):=by rw[IntWalk.i64_in _ (by omega)];omega
    have w4:(k:Int)+(n:Int)=(y:Int):=by omega
    by_cases c1:y<s.size
    · have d1:decide (y<s.size)=true:=decide_eq_true c1
      have d1':decide ((y:Int)<(s.size:Int))=true:=decide_eq_true (by omega);obtain⟨x,hx⟩:∃x,p+n=x:=⟨_,rfl⟩
      have i1:x<s.size:=by omega
      have b1:=byt_eq i1;have b2:=byt_eq c1;have w1:IntKind.i64.wrap ((p:Int)+(n:Int))=(x:Int):=by rw[IntWalk.i64_in _ (by omega)];omega
      have w3:(p:Int)+(n:Int)=(x:Int):=by omega
      by_cases c2:byt s x=byt s y
      · have c3:n<z:=by
         rcases Nat.lt_or_ge n z with g|g
         · exact g
         · obtain rfl:n=z:=by omega
           rcases HG.out.stop with q|q
           · rw[HMS.out] at q;omega
           · rw[hx,hy] at q;exact absurd c2 q
        have ee:(((s[x]'i1).toNat:Int)==((s[y]'c1).toNat:Int))=true:=by rw[b1,b2,c2];simp
        clear b1 b2 c2 hx hy;go_wp2_with fail
        go_quiet (fail)
        clear w3 w4;go_wp2_with fail;go_roundw
        case rel=>exact⟨n+1,_,by go_num,by omega,rfl⟩
        case measure=>simp[intOf];omega
      · have c3:n=z:=by
         rcases Nat.lt_or_ge n z with g|g
         · have:=HG.out.same n g
           rw[hx,hy] at this;exact absurd this c2
         · omega
        have ee:(((s[x]'i1).toNat:Int)==((s[y]'c1).toNat:Int))=false:=by rw[b1,b2,beq_eq_false_iff_ne];omega
        clear b1 b2 c2 hx hy;subst c3;go_wp2_with fail
        go_quiet (fail)
        clear w3 w4;go_wp2_with fail;go_ret;exact⟨rfl,_,World.drewN_drewN _ _ _⟩
    · have d1:decide (y<s.size)=false:=decide_eq_false c1
      have d1':decide ((y:Int)<(s.size:Int))=false:=decide_eq_false (by omega);obtain rfl:n=z:=by omega
      clear hy;go_wp2_with fail
      go_quiet (fail)
      clear w4;go_wp2_with fail;go_ret;exact⟨rfl,_,World.drewN_drewN _ _ _⟩
  · have d0:decide (n<258)=false:=decide_eq_false c0
    have d0':decide ((n:Int)<258)=false:=decide_eq_false (by omega);obtain rfl:n=z:=by omega
    go_wp2_with fail
    go_quiet (fail)
    go_wp2_with fail;go_ret;exact⟨rfl,_,World.drewN_drewN _ _ _⟩
end Q
end Go.Proofs.YtdpabanajgegjaaGreatDoor.V.Px
