import Derived.Deep.AppendLies
import Derived.Deep.Draws
import Derived.Test.YthgilhebnlglkaaGreatDoorProg
import Derived.WalkKit
import Derived.Lib.Hide
import Derived.Deep.OwnRows
import Derived.Deep.WholeRow
import Derived.Deep.MidRow
set_option linter.all false
set_option maxHeartbeats 0
set_option maxRecDepth 1000000
open Go.Proofs.Tryz
namespace Go.Proofs.YthgilhebnlglkaaGreatDoor
section
open Go Go.RowKit
abbrev A0:=@if_neg
abbrev A7:=@if_pos
abbrev Aa:=@Nat.zero_add
abbrev Ab:=@List.mem_cons
abbrev Ac:=@List.cons_append
abbrev Ad:=@Array.getElem?_setIfInBounds
abbrev Ae:=@ByteArray.size_extract
abbrev Af:=@List.length_take
abbrev Ag:=@Nat.lt_of_lt_of_le
abbrev Ah:=@List.length_map
abbrev Aj:=@List.take_of_length_le
abbrev Ak:=@Nat.pow_le_pow_right
abbrev Al:=@List.map_cons
abbrev Am:=@List.getElem?_map
abbrev An:=@List.getElem?_eq_some_iff
abbrev Ao:=@Nat.mul_comm
abbrev Ap:=@List.nil_append
abbrev Aq:=@List.mem_cons_self
abbrev Ar:=@Nat.mod_eq_of_lt
abbrev As:=@Array.length_toList
abbrev Au:=@Int.toNat_natCast
abbrev Av:=@List.map_nil
abbrev Aw:=@List.map_append
abbrev Ay:=@List.mem_map
abbrev Az:=@List.append_nil
abbrev AA:=@Nat.two_pow_pos
abbrev AB:=@List.length_nil
abbrev AC:=@Nat.add_assoc
abbrev AD:=@List.getElem?_take
abbrev AE:=@List.size_toArray
abbrev AF:=@List.length_drop
abbrev AG:=@beq_iff_eq
abbrev AH:=@List.mem_append
abbrev AI:=@Nat.add_zero
abbrev AJ:=@Nat.pow_add
abbrev AK:=@List.mem_cons_of_mem
abbrev AL:=@List.flatMap_append
abbrev AM:=@ByteArray.size_append
abbrev AN:=@Nat.pow_succ
abbrev AO:=@List.mem_of_mem_take
abbrev AP:=@List.length_replicate
abbrev AQ:=@bne_iff_ne
abbrev AR:=@Nat.mod_lt
abbrev AS:=@Nat.min_eq_left
abbrev AT:=@Array.getElem?_eq_none
abbrev AU:=@and_true
abbrev AV:=@List.map_toArray
abbrev AW:=@List.getElem_mem
abbrev AY:=@List.take_succ_cons
abbrev AZ:=@List.flatMap_cons
abbrev Ba:=@Nat.mul_assoc
abbrev Bb:=@List.take_append_drop
abbrev Bc:=@List.mem_singleton
abbrev Bd:=@List.take_add_one
abbrev Be:=@Array.replicate_succ
abbrev Bf:=@Array.replicate_zero
abbrev Bg:=@List.push_toArray
abbrev Bh:=@List.append_toArray
abbrev Bi:=@List.range_succ
abbrev Bj:=@List.getElem?_range
abbrev Bl:=@dif_pos
abbrev Bm:=@List.getElem?_drop
abbrev Bn:=@List.length_singleton
abbrev Bo:=@Nat.add_sub_cancel
abbrev Bq:=@Nat.mul_one
abbrev Bu:=@UInt8.toNat_ofNat'
abbrev Bw:=@Nat.min_eq_right
abbrev By:=@Nat.lt_or_ge
abbrev Bz:=@dif_neg
abbrev BB:=@List.replicate_succ
abbrev BC:=@List.map_map
abbrev BD:=@List.eq_of_mem_replicate
abbrev BE:=@Int.tmod_eq_emod_of_nonneg
abbrev BF:=@List.mem_append_left
abbrev BG:=@List.map_congr_left
abbrev BH:=@List.not_mem_nil
abbrev BI:=@or_false
abbrev BJ:=@Nat.div_div_eq_div_mul
abbrev BK:=@List.take_length
abbrev BM:=@Array.getElem?_toList
abbrev BN:=@Nat.le_refl
abbrev BP:=@List.mem_of_getElem?
abbrev BQ:=@Nat.add_mul
abbrev BR:=@Nat.mul_add
abbrev BS:=@Nat.mul_le_mul
abbrev BT:=@Array.getElem?_modify
abbrev BU:=@Nat.zero_mul
abbrev BV:=@List.mem_of_mem_drop
abbrev BW:=@List.getElem?_eq_none
abbrev BX:=@List.take_zero
abbrev BY:=@Nat.add_comm
abbrev BZ:=@List.drop_zero
abbrev C0:=@List.getElem?_cons_succ
abbrev C9:=@Nat.succ_mul
abbrev Ca:=@List.mem_range
abbrev Cb:=@List.getElem?_toArray
abbrev Cc:=@Int.natCast_mul
abbrev Ce:=@Int.natCast_ediv
abbrev Cf:=@Nat.div_eq_of_lt
abbrev Cg:=@List.mem_flatMap
abbrev Ci:=@Nat.pow_succ'
abbrev Cj:=@decide_eq_decide
abbrev Ck:=@List.drop_succ_cons
abbrev Cl:=@Array.ext_getElem?
abbrev Cm:=@List.getElem_of_mem
abbrev Co:=@List.drop_eq_getElem_cons
abbrev Cp:=@Bool.or_eq_true
abbrev Cq:=@Int.natCast_pow
abbrev Cr:=@Int.eq_ofNat_of_zero_le
abbrev Ct:=@Nat.mod_mod_of_dvd
abbrev Cu:=@Nat.pow_dvd_pow
abbrev Cv:=@of_decide_eq_true
abbrev Cw:=@Nat.le_succ
abbrev Cx:=@List.mem_iff_getElem?
abbrev Cy:=@List.mem_append_right
abbrev Cz:=@List.length_set
abbrev CA:=@Nat.le_of_not_lt
abbrev CB:=@Nat.sub_zero
abbrev CD:=@Nat.le_add_right
abbrev CE:=@Nat.lt_trichotomy
abbrev CF:=@Nat.mul_le_mul_right
abbrev CG:=@List.singleton_append
abbrev CH:=@Nat.le_of_eq
abbrev CI:=@Nat.lt_of_le_of_lt
abbrev CJ:=@Nat.div_le_self
abbrev CK:=@Nat.mod_one
abbrev CL:=@Int.le_refl
abbrev CM:=@Nat.mod_mul
abbrev CN:=@List.drop_take
abbrev CO:=@List.take_append_of_le_length
abbrev CP:=@List.all_eq_true
abbrev CQ:=@List.pairwise_cons
abbrev CS:=@List.map_take
abbrev CT:=@Nat.mul_left_comm
abbrev CW:=@Nat.one_mul
abbrev CY:=@List.take_take
abbrev CZ:=@Nat.div_lt_iff_lt_mul
abbrev D0:=@Nat.two_pow_add_eq_or_of_lt
abbrev D3:=@List.eq_nil_of_length_eq_zero
abbrev D4:=@Nat.lt_succ_self
abbrev D8:=@List.ext_getElem?
abbrev Da:=@Nat.pos_of_ne_zero
abbrev Db:=@Nat.lt_irrefl
abbrev Dc:=@List.range_succ_eq_map
abbrev De:=@Nat.mod_mul_right_div_self
abbrev Df:=@Nat.pow_pos
abbrev Dg:=@decide_eq_true_eq
abbrev Dh:=@List.drop_of_length_le
abbrev Di:=@bne_eq_false_iff_eq
abbrev Dj:=@Nat.sub_self
abbrev Dk:=@List.getElem?_append_left
abbrev Dl:=@List.getElem?_replicate
abbrev Dm:=@ByteArray.extract_zero_size
abbrev Dn:=@List.flatMap_nil
abbrev Do:=@Nat.add_sub_cancel_left
abbrev Dp:=@Nat.xor_lt_two_pow
abbrev Dq:=@ByteArray.append_assoc
abbrev Dr:=@Nat.one_le_two_pow
abbrev Dt:=@List.length_range
abbrev Du:=@List.replicate_append_replicate
abbrev Dv:=@List.replicate_succ'
abbrev Dw:=@Nat.and_two_pow_sub_one_eq_mod
abbrev Dx:=@List.drop_eq_nil_of_le
abbrev Dy:=@List.mem_map_of_mem
abbrev Dz:=@Nat.mul_le_mul_left
abbrev DA:=@Option.getD_some
abbrev DB:=@Array.size_setIfInBounds
abbrev DC:=@Nat.add_mul_mod_self_right
abbrev DD:=@ByteArray.data_extract
abbrev DE:=@Array.toList_extract
abbrev DF:=@List.extract_eq_take_drop
abbrev DG:=@Nat.min_le_right
abbrev DH:=@List.length_eq_zero_iff
abbrev DI:=@Array.size_append
abbrev DJ:=@List.filter_append
abbrev DK:=@List.length_filter_le
abbrev DL:=@List.getElem?_append_right
abbrev DM:=@List.append_cancel_left
abbrev DN:=@ByteArray.toList_eq
abbrev DO:=@List.getElem?_set_ne
abbrev DP:=@List.getElem?_set_self
def Hd(p:Prop):Prop:=p
theorem Hd.o{p:Prop}(h:Hd p):p:=h
theorem qH{p:Prop}(h:p):Hd p:=h
theorem qh2{A B:Prop}(a:A)(b:B):Hd A∧Hd B:=⟨a,b⟩
theorem qh3{A B C:Prop}(a:A)(b:B)(c:C):Hd A∧Hd B∧Hd C:=⟨a,b,c⟩
theorem qh4{A B C D:Prop}(a:A)(b:B)(c:C)(d:D):Hd A∧Hd B∧Hd C∧Hd D:=⟨a,b,c,d⟩
theorem qh5{A B C D E:Prop}(a:A)(b:B)(c:C)(d:D)(e:E):Hd A∧Hd B∧Hd C∧Hd D∧Hd E:=⟨a,b,c,d,e⟩
theorem qh6{A B C D E F:Prop}(a:A)(b:B)(c:C)(d:D)(e:E)(f:F):Hd A∧Hd B∧Hd C∧Hd D∧Hd E∧Hd F:=⟨a,b,c,d,e,f⟩
theorem qh7{A B C D E F G:Prop}(a:A)(b:B)(c:C)(d:D)(e:E)(f:F)(g:G):Hd A∧Hd B∧Hd C∧Hd D∧Hd E∧Hd F∧Hd G:=⟨a,b,c,d,e,f,g⟩
theorem qh8{A B C D E F G H:Prop}(a:A)(b:B)(c:C)(d:D)(e:E)(f:F)(g:G)(h:H):Hd A∧Hd B∧Hd C∧Hd D∧Hd E∧Hd F∧Hd G∧Hd H:=⟨a,b,c,d,e,f,g,h⟩
theorem qh9{A B C D E F G H I:Prop}(a:A)(b:B)(c:C)(d:D)(e:E)(f:F)(g:G)(h:H)(i:I):Hd A∧Hd B∧Hd C∧Hd D∧Hd E∧Hd F∧Hd G∧Hd H∧Hd I:=⟨a,b,c,d,e,f,g,h,i⟩
theorem qbt{w a b:World}(h:Hd (Below w.heap.size w a))(k:Below a.heap.size a b):Hd (Below w.heap.size w b):=h.o.trans (k.mono h.o.size)
theorem qcb{P:Program}{f:FuncId}{g:Array Value}{u w:World}{V:Value}{Q:Ending→World→Prop}(h:Hd (Below u.heap.size u w))(c:Calls P f g w fun e w'=>e=.returned V∧Below w.heap.size w w')(k:∀w',Hd (Below u.heap.size u w')→Q (.returned V) w'):Calls P f g w Q:=c.mono fun e w' x=>by rcases x with ⟨rfl,y⟩;exact k w' (qbt h y)
theorem qdT{a b:Nat}(h:a<b):decide ((a:Int)<(b:Int))=true∧decide (a<b)=true:=⟨decide_eq_true (by omega),decide_eq_true h⟩
theorem qR{a:Nat}:a<=a:=BN a
theorem qF{p:Prop}[h:Decidable p](q:¬p):decide p=false:=decide_eq_false q
theorem q9T{p:Prop}[h:Decidable p](q:p):decide p=true:=decide_eq_true q
theorem qA{α:Type _}{x y:List α}:(x++y).length=x.length+y.length:=List.length_append
theorem qB{w:World}{a:Addr}{v:Value}(h:w.cell? a=some v):a.block<w.heap.size:=World.block_lt_of_cell? _ _ h
theorem qE{α:Type _}{l:List α}{i:Nat}(h:i<l.length):l[i]? =some l[i]:=List.getElem?_eq_getElem h
theorem qN{α:Type _}[BEq α][LawfulBEq α]{a b:α}:(a==b)=false↔a≠b:=beq_eq_false_iff_ne
theorem qK{a b c:Nat}(h:a<=b)(k:b<=c):a<=c:=Nat.le_trans h k
theorem qZ{n:Nat}:0<=n:=Nat.zero_le n
theorem qD{α:Type _}(x y z:List α):x++y++z=x++(y++z):=List.append_assoc x y z
theorem qC{α:Type _}{a:α}{x:List α}:(a::x).length=x.length+1:=List.length_cons
theorem qW{α:Type _}{a:Array α}{i:Nat}{b:α}:a[i]? =some b↔∃h:i<a.size,a[i]=b:=Array.getElem?_eq_some_iff
theorem qL{w:World}{o:Obj}:Below w.heap.size w (w.alloc o):=(Below.refl _ _).alloc qR o
end
namespace M
inductive Th
 |lf (w s:Nat)
 |pk (a b:Th)
namespace Th
def wt:Th->Nat
 |lf w _=>w
 |pk a b=>a.wt+b.wt
def sy:Th->Nat
 |lf _ s=>s
 |pk _ _=>0
def cn(x:Nat):Th->Nat
 |lf _ s=>if s=x then 1 else 0
 |pk a b=>cn x a+cn x b
end Th
def ct(x:Nat):List Th->Nat
 |[]=>0
 |t::l=>t.cn x+ct x l
def pks:List Th->List Th
 |a::b::r=> .pk a b::pks r
 |_=> []
def mrg(L P:List Th):List Th:=match L,P with
 |[],P=>P
 |l::L,[]=>l::L
 |l::L,p::P=>if p.wt<l.wt then p::mrg (l::L) P else l::mrg L (p::P)
termination_by L.length+P.length
def row(L:List Th):Nat->List Th
 |0=> []
 |k+1=>mrg L (pks (row L k))
def nl(L P:List Th)(q:Nat):Nat:=match q,L,P with
 |0,_,_=>0
 |_,[],_=>0
 |q+1,l::L,[]=>min (q+1) (L.length+1)
 |q+1,l::L,p::P=>if p.wt<l.wt then nl (l::L) P q else nl L (p::P) q+1
def Up(l:List Th):Prop:=l.Pairwise λa b=>a.wt<=b.wt
theorem j8(P:List Th):mrg [] P=P:=by rw[mrg]
theorem cC(L:List Th):mrg L []=L:=by cases L<;>rw[mrg]
theorem dy(l p:Th)(L P:List Th):mrg (l::L) (p::P)=if p.wt<l.wt then p::mrg (l::L) P else l::mrg L (p::P):=by rw[mrg]
theorem aN:∀ (L P:List Th),(mrg L P).length=L.length+P.length
 |[],P=>by rw[j8];simp
 |l::L,[]=>by rw[cC];simp
 |l::L,p::P=>by
  rw[dy];split
  · rw[qC,aN (l::L) P];simp only[qC];omega
  · rw[qC,aN L (p::P)];simp only[qC];omega
termination_by L P=>L.length+P.length
theorem j9(t:Th):∀ (L P:List Th),t∈mrg L P↔t∈L\/t∈P
 |[],P=>by rw[j8];simp
 |l::L,[]=>by rw[cC];simp
 |l::L,p::P=>by
  rw[dy];split
  · rw[Ab,j9 t (l::L) P,Ab (b:=p),or_left_comm]
  · rw[Ab,j9 t L (p::P),Ab (b:=l),or_assoc]
termination_by L P=>L.length+P.length
theorem cB:∀ (R:List Th),(pks R).length=R.length/2
 |[]=>rfl
 |[a]=>by simp[pks]
 |a::b::r=>by simp only[pks,qC];rw[cB r];omega
theorem te(L:List Th):row L 1=L:=cC L
theorem qi(L:List Th)(k:Nat):(row L (k+1)).length=L.length+(row L k).length/2:=by
 show(mrg L (pks (row L k))).length=_
 rw[aN,cB]
theorem dG(x:Nat):∀ (l r:List Th),ct x (l++r)=ct x l+ct x r
 |[],r=>by simp[ct]
 |t::l,r=>by simp only[Ac,ct];rw[dG x l r];omega
theorem vA(x:Nat):∀ (R:List Th) (b:Nat),2*b<=R.length->ct x ((pks R).take b)=ct x (R.take (2*b))
 |_,0,_=>by simp[ct]
 |[],b+1,h=>by simp at h
 |[a],b+1,h=>by simp at h;omega
 |a::c::r,b+1,h=>by
  simp only[qC] at h;rw[show 2*(b+1)=2*b+1+1 by omega];simp only[pks,AY,ct,Th.cn];rw[vA x r b (by omega)];omega
theorem mn(t:Th):∀ (R:List Th) (b:Nat),2*b<=R.length->t∈R.take (2*b)->∃u∈(pks R).take b,t.wt<=u.wt
 |_,0,_,h=>by simp at h
 |[],b+1,h,_=>by simp at h
 |[a],b+1,h,_=>by simp at h;omega
 |a::c::r,b+1,h,g=>by
  simp only[qC] at h;rw[show 2*(b+1)=2*b+1+1 by omega] at g;simp only[AY,Ab] at g;simp only[pks,AY];rcases g with rfl|rfl|g
  · exact⟨_,Aq,by simp only[Th.wt];omega⟩
  · exact⟨_,Aq,by simp only[Th.wt];omega⟩
  · obtain⟨u,d,e⟩:=mn t r b (by omega) g
    exact⟨u,AK _ d,e⟩
theorem ft(L P:List Th):nl L P 0=0:=by unfold nl;rfl
theorem fv(P:List Th)(q:Nat):nl [] P q=0:=by cases q<;>simp[nl]
theorem kz(L:List Th)(q:Nat):nl L [] q=min q L.length:=by
 cases q with
 |zero=>simp[nl]
 |succ q=>cases L<;>simp[nl]
theorem dP(l p:Th)(L P:List Th)(q:Nat):nl (l::L) (p::P) (q+1)=if p.wt<l.wt then nl (l::L) P q else nl L (p::P) q+1:=by rw[nl]
theorem qu:∀ (L P:List Th) (q:Nat),nl L P q<=q
 |_,_,0=>by rw[ft];omega
 |[],P,q+1=>by rw[fv];omega
 |l::L,[],q+1=>by rw[kz];omega
 |l::L,p::P,q+1=>by
  rw[dP];split
  · have:=qu (l::L) P q;omega
  · have:=qu L (p::P) q;omega
theorem tX:∀ (L P:List Th) (q:Nat),nl L P q<=L.length
 |_,_,0=>by rw[ft];omega
 |[],P,q+1=>by rw[fv];omega
 |l::L,[],q+1=>by rw[kz];omega
 |l::L,p::P,q+1=>by
  rw[dP];split
  · exact tX (l::L) P q
  · have:=tX L (p::P) q;simp only[qC];omega
theorem mc:∀ (L P:List Th) (q:Nat),q<=L.length+P.length->q - nl L P q<=P.length
 |_,_,0,_=>by omega
 |[],P,q+1,h=>by rw[fv];simp at h;omega
 |l::L,[],q+1,h=>by rw[kz];simp at h;simp;omega
 |l::L,p::P,q+1,h=>by
  simp only[qC] at h;rw[dP];split
  · have:=mc (l::L) P q (by simp only[qC];omega);simp only[qC] at*;omega
  · have:=mc L (p::P) q (by simp only[qC];omega);simp only[qC] at*;omega
theorem jl(x:Nat):∀ (L P:List Th) (q:Nat),q<=L.length+P.length->ct x ((mrg L P).take q)=ct x (L.take (nl L P q))+ct x (P.take (q - nl L P q))
 |_,_,0,_=>by rw[ft];simp[ct]
 |[],P,q+1,_=>by rw[fv,j8];simp[ct]
 |l::L,[],q+1,h=>by
  rw[kz,cC];simp only[qC,AB] at h;rw[AS (by simp only[qC];omega)];simp[ct]
 |l::L,p::P,q+1,h=>by
  simp only[qC] at h;rw[dP,dy];by_cases a:p.wt<l.wt
  · rw[A7 a,A7 a]
    have b:=qu (l::L) P q;rw[show q+1 - nl (l::L) P q=(q - nl (l::L) P q)+1 by omega,AY,AY];simp only[ct];rw[jl x (l::L) P q (by simp only[qC];omega)];omega
  · rw[A0 a,A0 a]
    have b:=qu L (p::P) q;rw[show q+1 - (nl L (p::P) q+1)=q - nl L (p::P) q by omega,AY,AY];simp only[ct];rw[jl x L (p::P) q (by simp only[qC];omega)];omega
theorem eL(t:Th):∀ (L P:List Th) (q:Nat),t∈L.take (nl L P q)->t∈(mrg L P).take q
 |_,_,0,h=>by rw[ft] at h;simp at h
 |[],P,q+1,h=>by rw[fv] at h;simp at h
 |l::L,[],q+1,h=>by
  rw[kz] at h;rw[cC];by_cases e:q+1<=(l::L).length
  · rwa [AS e] at h
  · rw[Bw (by omega)] at h
    rw[Aj (by omega)]
    rwa [Aj qR] at h
 |l::L,p::P,q+1,h=>by
  rw[dP] at h;rw[dy];by_cases a:p.wt<l.wt
  · rw[A7 a] at h;rw[A7 a,AY]
    exact AK _ (eL t (l::L) P q h)
  · rw[A0 a,AY] at h;rw[A0 a,AY]
    rcases Ab.1 h with rfl|h
    · exact Aq
    · exact AK _ (eL t L (p::P) q h)
theorem iU(u t:Th):∀ (L P:List Th) (q:Nat),Up L->L[nl L P q]? =some t->u∈P.take (q - nl L P q)->u.wt<t.wt
 |L,P,0,_,_,h=>by rw[ft] at h;simp at h
 |[],P,q+1,_,h,_=>by simp at h
 |l::L,[],q+1,_,_,h=>by simp at h
 |l::L,p::P,q+1,hup,h,g=>by
  rw[dP] at h g;by_cases a:p.wt<l.wt
  · rw[A7 a] at h g
    have b:=qu (l::L) P q;rw[show q+1 - nl (l::L) P q=(q - nl (l::L) P q)+1 by omega,AY] at g;rcases Ab.1 g with rfl|g
    · have:=BP h
      rcases Ab.1 this with rfl|e
      · exact a
      · have:=(CQ.1 hup).1 t e;omega
    · exact iU u t (l::L) P q hup h g
  · rw[A0 a] at h g
    rw[show q+1 - (nl L (p::P) q+1)=q - nl L (p::P) q by omega] at g;rw[C0] at h;exact iU u t L (p::P) q (CQ.1 hup).2 h g
def sm(f:Nat->Nat):Nat->Nat
 |0=>0
 |n+1=>sm f n+f n
theorem sm_congr{f g:Nat->Nat}:∀n,(∀i,i<n->f i=g i)->sm f n=sm g n
 |0,_=>rfl
 |n+1,h=>by simp only[sm];rw[sm_congr n (λi hi=>h i (by omega)),h n (by omega)]
theorem jV(f g:Nat->Nat):∀n,sm (λi=>f i+g i) n=sm f n+sm g n
 |0=>rfl
 |n+1=>by simp only[sm];rw[jV f g n];omega
theorem DV(f:Nat->Nat)(c:Nat):∀n,sm (λi=>f i*c) n=sm f n*c
 |0=>by simp[sm]
 |n+1=>by simp only[sm];rw[DV f c n,BQ]
theorem eF(c:Nat):∀n,sm (λ_=>c) n=n*c
 |0=>by simp[sm]
 |n+1=>by simp only[sm];rw[eF c n,C9]
theorem dd:∀n,sm (λ_=>0) n=0:=λn=>by rw[eF];simp
theorem sQ(f:Nat->Nat->Nat)(m:Nat):∀k,sm (λj=>sm (λi=>f i j) m) k=sm (λi=>sm (λj=>f i j) k) m
 |0=>by simp only[sm];rw[dd]
 |k+1=>by simp only[sm];rw[sQ f m k,jV]
theorem DU(w:Nat->Nat)(a:Nat):∀m,a<=m->sm (λi=>if i<a then w i else 0) m=sm w a
 |0,h=>by obtain rfl:a=0:=by omega
          rfl
 |m+1,h=>by
  simp only[sm];by_cases e:a=m+1
  · subst e
    rw[A7 (by omega)];simp only[sm];rw[sm_congr m (g:=w) (λi hi=>A7 (by omega))]
  · rw[DU w a m (by omega),A0 (by omega)];omega
def lvs(w g:Nat->Nat)(m:Nat):List Th:=(List.range m).map λi=>Th.lf (w i) (g i)
def LL(w:Nat->Nat)(m:Nat):Prop:=∀i j,i<=j->j<m->w i<=w j
theorem al(w g:Nat->Nat)(m:Nat):(lvs w g m).length=m:=by unfold lvs;simp
theorem oD(w g:Nat->Nat)(m:Nat):lvs w g (m+1)=lvs w g m++[.lf (w m) (g m)]:=by unfold lvs;rw[Bi];simp
theorem oC(w g:Nat->Nat){a m:Nat}(h:a<=m):(lvs w g m).take a=lvs w g a:=by
 unfold lvs;rw[<-CS,List.take_range,AS h]
theorem Ek{w g:Nat->Nat}{m:Nat}(h:LL w m):Up (lvs w g m):=by
 unfold Up lvs;rw[List.pairwise_map];refine List.Pairwise.imp_of_mem ?_ (List.pairwise_lt_range (n:=m));intro a b e d c;exact h a b (by omega) (Ca.1 d)
theorem El{w g:Nat->Nat}{m i:Nat}(b:∀i j,i<m->j<m->g i=g j->i=j)(hi:i<m):∀a,a<=m->ct (g i) (lvs w g a)=if i<a then 1 else 0
 |0,_=>by simp[lvs,ct]
 |a+1,h=>by
  rw[oD,dG,El b hi a (by omega)];simp only[ct,Th.cn];by_cases e:i=a
  · subst e;simp
  · have:g a≠g i:=λq=>e (b a i (by omega) hi q).symm
    rw[A0 this];by_cases c:i<a
    · rw[A7 c,A7 (by omega)]
    · rw[A0 c,A0 (by omega)]
theorem uk{w g:Nat->Nat}{x:Nat}:∀m,(∀i,i<m->g i≠x)->ct x (lvs w g m)=0
 |0,_=>by simp[lvs,ct]
 |m+1,h=>by
  rw[oD,dG,uk m (λi hi=>h i (by omega))];simp[ct,Th.cn,h m (by omega)]
section
variable {w g:Nat->Nat} {m:Nat}
def tl(L:List Th):Nat->Nat->Nat
 |0,_=>0
 |k+1,q=>nl L (pks (row L k)) q
def ln(L:List Th):Nat->Nat->Nat->Nat
 |0,_,_=>0
 |k+1,q,i=>(if i<tl L (k+1) q then 1 else 0)+ln L k (2*(q - tl L (k+1) q)) i
def wd(L:List Th):Nat->Nat->Nat->Nat
 |0,_,_=>0
 |k+1,q,i=>(if i<tl L (k+1) q then 2^k else 0)+wd L k (2*(q - tl L (k+1) q)) i
theorem jL(L:List Th)(k q:Nat):tl L k q<=L.length:=by
 cases k with
 |zero=>simp[tl]
 |succ k=>exact tX _ _ _
theorem KS(L:List Th)(k q:Nat):tl L k q<=q:=by
 cases k with
 |zero=>simp[tl]
 |succ k=>exact qu _ _ _
theorem cY(L:List Th)(k q:Nat)(h:q<=(row L (k+1)).length):q - tl L (k+1) q<=(pks (row L k)).length/\2*(q - tl L (k+1) q)<=(row L k).length:=by
 have b:q<=L.length+(pks (row L k)).length:=(by rw[<-aN];exact h);have c:=mc L (pks (row L k)) q b;have a:q - tl L (k+1) q<=(pks (row L k)).length:=c;refine⟨a,?_⟩;rw[cB] at a;omega
theorem EF(a:∀i j,i<m->j<m->g i=g j->i=j){i:Nat}(hi:i<m):∀k q,q<=(row (lvs w g m) k).length->ct (g i) ((row (lvs w g m) k).take q)=ln (lvs w g m) k q i
 |0,q,h=>by simp[row,ct,ln]
 |k+1,q,h=>by
  obtain⟨d,c⟩:=cY _ k q h;have b:=jL (lvs w g m) (k+1) q;rw[al] at b;show ct (g i) ((mrg _ (pks _)).take q)=_
  rw[jl _ _ _ _ (by rw[<-aN];exact h)];show ct (g i) ((lvs w g m).take (tl _ (k+1) q))+ct (g i) ((pks _).take (q - tl _ (k+1) q))=_
  rw[oC _ _ b,El a hi _ b,vA _ _ _ c,EF a hi k _ c];rfl
theorem vz{x:Nat}(a:∀i,i<m->g i≠x):∀k q,q<=(row (lvs w g m) k).length->ct x ((row (lvs w g m) k).take q)=0
 |0,q,h=>by simp[row,ct]
 |k+1,q,h=>by
  obtain⟨d,b⟩:=cY _ k q h;have c:=jL (lvs w g m) (k+1) q;rw[al] at c;show ct x ((mrg _ (pks _)).take q)=_
  rw[jl _ _ _ _ (by rw[<-aN];exact h)];show ct x ((lvs w g m).take (tl _ (k+1) q))+ct x ((pks _).take (q - tl _ (k+1) q))=_
  rw[oC _ _ c,uk _ (λi hi=>a i (by omega)),vA _ _ _ b,vz a k _ b]
theorem JH(L:List Th)(i:Nat):∀k q,ln L k q i<=k
 |0,q=>qR
 |k+1,q=>by
  have:=JH L i k (2*(q - tl L (k+1) q));simp only[ln];split<;>omega
theorem sv{L:List Th}(l:Up L)(k q:Nat)(h:q<=(row L (k+1)).length):tl L k (2*(q - tl L (k+1) q))<=tl L (k+1) q:=by
 cases k with
 |zero=>simp[tl]
 |succ k=>
  apply CA
  intro c;obtain⟨j,f⟩:=cY L (k+1) q h;obtain⟨a,d⟩:∃a,tl L (k+1+1) q=a:=⟨_,rfl⟩
  rw[d] at j f c;have o:=jL L (k+1) (2*(q - a));have b:a<L.length:=(by omega);have i:L[a]∈L.take (nl L (pks (row L k)) (2*(q - a))):=by
   rw[List.mem_take_iff_getElem];exact⟨a,by rw[Nat.lt_min];exact⟨c,b⟩,rfl⟩
  have e:=eL _ _ _ _ i;obtain⟨u,n,p⟩:=mn (L[a]) (row L (k+1)) (q - a) f e
  have:=iU u (L[a]) L (pks (row L (k+1))) q l (by
   show L[tl L (k+1+1) q]? =_
   rw[d];exact qE b) (by
   show u∈(pks (row L (k+1))).take (q - tl L (k+1+1) q)
   rw[d];exact n)
  omega
theorem uq{L:List Th}(a:Up L){i:Nat}:∀k q,q<=(row L k).length->tl L k q<=i->ln L k q i=0
 |0,_,_,_=>rfl
 |k+1,q,h,hi=>by
  obtain⟨c,b⟩:=cY L k q h;have:=sv a k q h;simp only[ln];rw[A0 (by omega),uq a k _ b (by omega)]
theorem IL{L:List Th}(b:Up L)(i:Nat):∀k q,q<=(row L k).length->wd L k q i+2^(k - ln L k q i)=2^k
 |0,_,_=>by simp[wd]
 |k+1,q,h=>by
  obtain⟨j,d⟩:=cY L k q h;have c:=IL b i k _ d;have a:2^(k+1)=2^k+2^k:=(by rw[AN];omega);simp only[wd,ln];by_cases e:i<tl L (k+1) q
  · rw[A7 e,A7 e,show k+1 - (1+ln L k (2*(q - tl L (k+1) q)) i)=k - ln L k (2*(q - tl L (k+1) q)) i by omega,a];omega
  · have f:=uq b k _ d (show tl L k (2*(q - tl L (k+1) q))<=i from qK (sv b k q h) (by omega))
    rw[f] at c ⊢;rw[A0 e,A0 e,a];simp only[CB,AI,Aa] at c ⊢;rw[a];omega
theorem IV(L:List Th):∀k q,q<=(row L k).length->2*sm (wd L k q) L.length=q*2^k
 |0,q,h=>by
  obtain rfl:q=0:=by simpa [row] using h
  have e:sm (wd L 0 0) L.length=sm (λ_=>0) L.length:=sm_congr _ (λi _=>rfl);rw[e,dd]
 |k+1,q,h=>by
  obtain⟨j,d⟩:=cY L k q h;have c:=IV L k _ d;have f:=jL L (k+1) q;have l:=KS L (k+1) q;have e:sm (wd L (k+1) q) L.length=tl L (k+1) q*2^k+sm (wd L k (2*(q - tl L (k+1) q))) L.length:=by
   rw[<-eF (2^k),<-DU (λ_=>2^k) _ _ f,<-jV];rfl
  rw[e,BR,c,AN];obtain⟨x,b⟩:∃x,q=tl L (k+1) q+x:=⟨q - tl L (k+1) q,by omega⟩
  generalize tl L (k+1) q=a at*;subst b;rw[show a+x - a=x by omega,BQ];generalize 2^k=p;rw[show a*(p*2)=2*(a*p) by rw[Ao p,CT],show x*(p*2)=2*x*p by rw[Ao p,CT,Ba]]
theorem Lm{L:List Th}(c:Up L)(k:Nat)(j:0<L.length)(h:2*L.length - 2<=(row L k).length):sm (λi=>2^(k - ln L k (2*L.length - 2) i)) L.length=2^k:=by
 have b:=IV L k _ h;have a:sm (λi=>wd L k (2*L.length - 2) i+2^(k - ln L k (2*L.length - 2) i)) L.length=L.length*2^k:=by
  rw[<-eF (2^k)];exact sm_congr _ (λi _=>IL c i k _ h)
 rw[jV] at a;obtain⟨n,d⟩:∃n,L.length=n+1:=⟨L.length - 1,by omega⟩
 rw[d] at b a ⊢;rw[show 2*(n+1) - 2=2*n by omega] at b a ⊢;rw[BQ,CW] at a;have f:sm (wd L k (2*n)) (n+1)=n*2^k:=by
  have e:2*n*2^k=2*(n*2^k):=(by rw[Ba]);omega
 omega
theorem zZ{L:List Th}(f:Up L)(p:2<=L.length):∀k,2*L.length - 2<=(row L k).length->tl L k (2*L.length - 2)=L.length
 |0,h=>by simp[row] at h;omega
 |k+1,h=>by
  obtain⟨j,o⟩:=cY L k _ h;have q:=jL L (k+1) (2*L.length - 2);apply Nat.le_antisymm q;apply CA;intro b;obtain⟨a,d⟩:∃a,tl L (k+1) (2*L.length - 2)=a:=⟨_,rfl⟩
  rw[d] at j o b;have n:=zZ f p k (by omega);cases k with
  |zero=>simp[tl] at n;omega
  |succ k=>
   have l:L[a]∈L.take (nl L (pks (row L k)) (2*L.length - 2)):=by
    rw[List.mem_take_iff_getElem];exact⟨a,by rw[Nat.lt_min];exact⟨by show a<tl L (k+1) _;omega,b⟩,rfl⟩
   have c:=eL _ _ _ _ l;rw[show 2*L.length - 2=2*(L.length - 1) by omega] at c;obtain⟨u,i,r⟩:=mn (L[a]) (row L (k+1)) (L.length - 1) (by omega) c;have e:u∈(pks (row L (k+1))).take (2*L.length - 2 - a):=by
    have:(pks (row L (k+1))).take (L.length - 1)=((pks (row L (k+1))).take (2*L.length - 2 - a)).take (L.length - 1):=by
     rw[CY,AS (by omega)]
    rw[this] at i;exact AO i
   have:=iU u (L[a]) L (pks (row L (k+1))) (2*L.length - 2) f (by
    show L[tl L (k+1+1) _]? =_
    rw[d];exact qE b) (by
    show u∈(pks (row L (k+1))).take (_ - tl L (k+1+1) _)
    rw[d];exact e)
   omega
theorem JG{L:List Th}(b:Up L)(a:2<=L.length){k i:Nat}(h:2*L.length - 2<=(row L k).length)(hi:i<L.length):1<=ln L k (2*L.length - 2) i:=by
 have:=zZ b a k h;cases k with
 |zero=>simp[tl] at this;omega
 |succ k=>simp only[ln];rw[this,A7 hi];omega
theorem nT(L:List Th):∀k j,L.length<=2^k*j->2*L.length<=(row L k).length+2*j
 |0,j,h=>by simp[row] at*;omega
 |k+1,j,h=>by
  have:=nT L k (2*j) (by rw[AN] at h;rwa [<-Ba]);rw[qi];omega
theorem bP(L:List Th)(k:Nat)(h:L.length<=2^k):2*L.length - 2<=(row L k).length:=by
 have:=nT L k 1 (by omega);omega
end
def cnt(l:Nat->Nat)(s:Nat):Nat->Nat
 |0=>0
 |k+1=>cnt l s k+if l k=s then 1 else 0
def wt(x:Nat):Nat:=if x=0 then 0 else 2^(15 - x)
def aa(l:Nat->Nat):Nat->Nat
 |0=>0
 |k+1=>aa l k+wt (l k)
def c0(l:Nat->Nat)(n s:Nat):Nat:=if s=0 then 0 else cnt l s n
def aw(c:Nat->Nat):Nat->Nat
 |0=>0
 |s+1=>aw c s+c s*2^(15 - s)
def fs(c:Nat->Nat):Nat->Nat
 |0=>0
 |s+1=>(fs c s+c s)*2
def cod(l:Nat->Nat)(n i:Nat):Nat:=if l i=0 then 0 else fs (c0 l n) (l i)+cnt l (l i) i
def May(l:Nat->Nat)(n:Nat):Prop:=n<=320/\∀i,i<n->l i<=15
instance (l:Nat->Nat) (n:Nat):Decidable (May l n):=inferInstanceAs (Decidable (n<=320/\∀i,i<n->l i<=15))
def kind(l:Nat->Nat)(n:Nat):Nat:=if May l n then(if aa l n=0 then 0 else if 32768<aa l n then 4 else if aa l n=32768 then 2 else if c0 l n 1=1/\aa l n=16384 then 1 else 3) else 5
def erc(l:Nat->Nat)(n:Nat):Nat:=if kind l n=5 then 2 else if kind l n=4 then 7 else 0
def hH(l:Nat->Nat)(n:Nat):Nat:=if erc l n=0 then n else 0
theorem jf{l:Nat->Nat}{n:Nat}(h:¬May l n):kind l n=5:=by unfold kind;rw[A0 h]
theorem bj{l:Nat->Nat}{n:Nat}(h:May l n):kind l n=if aa l n=0 then 0 else if 32768<aa l n then 4 else if aa l n=32768 then 2 else if c0 l n 1=1/\aa l n=16384 then 1 else 3:=by unfold kind;rw[A7 h]
theorem eQ{l:Nat->Nat}{n:Nat}(h:kind l n≠5):May l n:=by
 apply Classical.byContradiction
 intro g;exact h (jf g)
theorem uB(l:Nat->Nat)(n:Nat):kind l n<=5:=by
 by_cases h:May l n
 · rw[bj h];repeat' split
   all_goals omega
 · rw[jf h];omega
theorem dz{l:Nat->Nat}{n:Nat}(e:kind l n≠5)(a:kind l n≠4):May l n/\aa l n<=32768:=by
 have b:=eQ e;refine⟨b,?_⟩;rw[bj b] at a;by_cases d:aa l n=0
 · omega
 · rw[A0 d] at a
   by_cases c:32768<aa l n
   · rw[A7 c] at a;omega
   · omega
theorem vF(l:Nat->Nat)(s:Nat):∀k,cnt l s k<=k
 |0=>qR
 |k+1=>by
  have:=vF l s k;simp only[cnt];split<;>omega
theorem ph(l:Nat->Nat)(s:Nat){j k:Nat}(h:j<=k):cnt l s j<=cnt l s k:=by
 induction k with
 |zero=>obtain rfl:j=0:=by omega
        exact qR
 |succ k ih=>
  by_cases e:j=k+1
  · subst e;exact qR
  · have:=ih (by omega)
    simp only[cnt];omega
theorem K7(l:Nat->Nat){i k:Nat}(h:i<k):cnt l (l i) i<cnt l (l i) k:=by
 have a:cnt l (l i) (i+1)=cnt l (l i) i+1:=(by simp[cnt]);have b:=ph l (l i) (show i+1<=k from h);omega
theorem fL{l l':Nat->Nat}(s:Nat):∀k,(∀i,i<k->l i=l' i)->cnt l s k=cnt l' s k
 |0,_=>rfl
 |k+1,h=>by simp only[cnt];rw[fL s k (λi hi=>h i (by omega)),h k (by omega)]
theorem eh{l l':Nat->Nat}:∀k,(∀i,i<k->l i=l' i)->aa l k=aa l' k
 |0,_=>rfl
 |k+1,h=>by simp only[aa];rw[eh k (λi hi=>h i (by omega)),h k (by omega)]
theorem rV{x:Nat}(h:x≠0):1<=wt x:=by unfold wt;rw[A0 h];exact Dr
theorem mT(l:Nat->Nat)(n s:Nat):c0 l n s<=n:=by unfold c0;split;omega;exact vF l s n
theorem lp(l:Nat->Nat)(n:Nat):∀m,aw (c0 l (n+1)) m=aw (c0 l n) m+if l n<m then wt (l n) else 0
 |0=>by simp[aw]
 |m+1=>by
  simp only[aw];rw[lp l n m];have e:c0 l (n+1) m*2^(15 - m)=c0 l n m*2^(15 - m)+if l n=m then wt m else 0:=by
   unfold c0 wt;by_cases a:m=0
   · rw[A7 a,A7 a,A7 a];split<;>simp
   · rw[A0 a,A0 a,A0 a]
     simp only[cnt]
     split
     · rw[BQ,CW]
     · simp
  rw[e];by_cases d:l n<m
  · have c:¬l n=m:=by omega
    have b:l n<m+1:=(by omega);rw[A7 d,A0 c,A7 b];omega
  · by_cases c:l n=m
    · have b:l n<m+1:=by omega
      rw[A0 d,A7 c,A7 b,c];omega
    · have b:¬l n<m+1:=by omega
      rw[A0 d,A0 c,A0 b];omega
theorem wC(l:Nat->Nat):∀m,aw (c0 l 0) m=0
 |0=>rfl
 |m+1=>by simp only[aw];rw[wC l m];unfold c0;split<;>simp[cnt]
theorem aE(l:Nat->Nat):∀n,(∀i,i<n->l i<=15)->aw (c0 l n) 16=aa l n
 |0,_=>wC l 16
 |n+1,h=>by
  have a:=h n (by omega);rw[lp,A7 (show l n<16 by omega),aE l n (λi hi=>h i (by omega))];rfl
theorem wD(c:Nat->Nat){s t:Nat}(h:s<=t):aw c s<=aw c t:=by
 induction t with
 |zero=>obtain rfl:s=0:=by omega
        exact qR
 |succ t ih=>
  by_cases e:s=t+1
  · subst e;exact qR
  · have:=ih (by omega)
    simp only[aw];exact qK this (CD _ _)
theorem GZ(c:Nat->Nat):∀s,s<=15->fs c s*2^(15 - s)=aw c s
 |0,_=>by simp[fs,aw]
 |s+1,h=>by
  have a:=GZ c s (by omega);have b:2^(15 - s)=2*2^(15 - (s+1)):=(by rw[show 15 - s=(15 - (s+1))+1 by omega,AN];omega);simp only[fs,aw];rw[<-a,Ba,<-b,BQ]
theorem Ey(c:Nat->Nat)(s:Nat)(h:s<=15):(fs c s+c s)*2^(15 - s)=aw c (s+1):=by
 rw[BQ,GZ c s h];rfl
theorem JS{c:Nat->Nat}{s:Nat}(h:s<=15)(d:aw c 16<=32768):fs c s+c s<=2^s:=by
 have a:=Ey c s h;have b:=wD c (show s+1<=16 by omega);have e:(fs c s+c s)*2^(15 - s)<=2^s*2^(15 - s):=by
  rw[a,<-AJ,show s+(15 - s)=15 by omega];exact qK b d
 exact Nat.le_of_mul_le_mul_right e (AA _)
theorem oV{c:Nat->Nat}(a:∀s,s<16->c s<=320):∀s,s<=16->fs c s+640<=640*2^s
 |0,_=>by simp[fs]
 |s+1,h=>by
  have b:=oV a s (by omega);have d:=a s (by omega);rw[AN];simp only[fs];omega
theorem pH{c:Nat->Nat}(a:∀s,s<16->c s<=320):∀s,s<=16->aw c s<=s*10485760
 |0,_=>by simp[aw]
 |s+1,h=>by
  have b:=pH a s (by omega);have d:c s*2^(15 - s)<=320*2^15:=BS (a s (by omega)) (Ak (by omega) (by omega));simp only[aw];omega
def nz(l:Nat->Nat):Nat->Nat
 |0=>0
 |k+1=>nz l k+if l k=0 then 0 else 1
def lst(l:Nat->Nat):Nat->Nat
 |0=>0
 |k+1=>if l k=0 then lst l k else l k
theorem ot(l:Nat->Nat):∀k,cnt l 1 k<=nz l k/\16384*cnt l 1 k+(nz l k - cnt l 1 k)<=aa l k/\(nz l k=0->aa l k=0)/\(nz l k=1->aa l k=wt (lst l k)/\cnt l 1 k=if lst l k=1 then 1 else 0)
 |0=>by simp[cnt,nz,aa]
 |k+1=>by
  obtain⟨i,j,d,n⟩:=ot l k;by_cases a:l k=0
  · have e:wt (l k)=0:=by unfold wt;rw[A7 a]
    have b:¬l k=1:=(by omega);have f:lst l (k+1)=lst l k:=(by simp only[lst];rw[A7 a]);rw[f];simp only[cnt,nz,aa];rw[A7 a,A0 b,e];exact⟨i,j,d,n⟩
  · have o:=rV a
    have f:lst l (k+1)=l k:=(by simp only[lst];rw[A0 a]);rw[f];by_cases b:l k=1
    · have e:wt (l k)=16384:=by rw[b];rfl
      simp only[cnt,nz,aa];rw[A0 a,A7 b,e];refine⟨by omega,by omega,by omega,λg=> ?_⟩;have c:nz l k=0:=(by omega);have h:=d c;exact⟨by omega,by omega⟩
    · simp only[cnt,nz,aa]
      rw[A0 a,A0 b];refine⟨by omega,by omega,by omega,λg=> ?_⟩;have c:nz l k=0:=(by omega);have h:=d c;exact⟨by omega,by omega⟩
theorem JZ{l:Nat->Nat}{n i:Nat}(b:May l n)(e:aa l n<=32768)(hi:i<n):cod l n i<2^l i\/l i=0:=by
 by_cases a:l i=0
 · exact .inr a
 · refine .inl ?_
   have d:=b.2 i hi;have h:=JS (c:=c0 l n) d (by rw[aE l n b.2];exact e);have f:=K7 l hi;have j:c0 l n (l i)=cnt l (l i) n:=(by unfold c0;rw[A0 a]);unfold cod;rw[A0 a];omega
theorem vE{l:Nat->Nat}{n i:Nat}(a:May l n)(b:aa l n<=32768)(hi:i<n):cod l n i<2^l i:=by
 rcases JZ a b hi with h|h
 · exact h
 · unfold cod;rw[A7 h,h];decide
theorem kX{l:Nat->Nat}{n i:Nat}(a:May l n)(b:aa l n<=32768)(hi:i<n):cod l n i<32768:=
 Ag (vE a b hi) (Ak (by omega) (a.2 i hi):2^l i<=2^15)
end M
namespace M
open Go Go.RowKit
def av(w:World)(k:IntKind)(A:Option Addr)(n:Nat)(f:Nat->Int):Prop:=
 0<n->∃b o,A=some ⟨b,o,none⟩/\b<w.heap.size/\∀i,i<n->w.cell? ⟨b,o+i,none⟩=some (.int k (f i))
def rS(w:World)(A:Option Addr)(n:Nat)(f g:Nat->Nat):Prop:=
 0<n->∃b o,A=some ⟨b,o,none⟩/\b<w.heap.size/\∀i,i<n->w.cell? ⟨b,o+i*2,none⟩=some (.int .u32 (f i))/\w.cell? ⟨b,o+i*2+1,none⟩=some (.int .u8 (g i))
section
variable {w w':World} {k:IntKind} {A:Option Addr} {n:Nat} {f f':Nat->Int} {g h g' h':Nat->Nat}
theorem av.below(H:av w k A n f)(c:Below w.heap.size w w'):av w' k A n f:=λd=>by
 obtain⟨b,o,e,a,j⟩:=H d;exact⟨b,o,e,Ag a c.size,λi hi=>(c.cell a).trans (j i hi)⟩
theorem rS.below(H:rS w A n g h)(c:Below w.heap.size w w'):rS w' A n g h:=λj=>by
 obtain⟨b,o,e,a,d⟩:=H j;exact⟨b,o,e,Ag a c.size,λi hi=>⟨(c.cell a).trans (d i hi).1,(c.cell a).trans (d i hi).2⟩⟩
theorem rS.nil(w:World)(A:Option Addr)(g h:Nat->Nat):rS w A 0 g h:=λa=>absurd a (by omega)
theorem av.congr(H:av w k A n f)(e:∀i,i<n->f i=f' i):av w k A n f':=λc=>by
 obtain⟨b,o,j,a,d⟩:=H c;exact⟨b,o,j,a,λi hi=>by rw[d i hi,e i hi]⟩
theorem av.drewN(H:av w k A n f)(m:Nat):av (w.drewN m) k A n f:=H
theorem aj{B:Nat}(a:Below B w w')(m:Nat):Below B w (w'.drewN m):=⟨a.os,a.tape,a.output,a.size,a.block⟩
end
structure Kept(S:Nat->Prop)(w w':World):Prop where
 os:w'.os=w.os
 tape:w'.tape=w.tape
 output:w'.output=w.output
 size:w.heap.size<=w'.heap.size
 block:∀k,k<w.heap.size->¬S k->w'.heap[k]? =w.heap[k]?
def NoB:Nat->Prop:=λ_=>False
variable {S T U:Nat->Prop} {w w' w'':World}
theorem Kept.refl(S:Nat->Prop)(w:World):Kept S w w:=⟨rfl,rfl,rfl,qR,λ_ _ _=>rfl⟩
theorem Kept.trans(h:Kept S w w')(k:Kept T w' w'')(c:∀j,T j->S j\/w.heap.size<=j):Kept S w w'':=
 ⟨k.os.trans h.os,k.tape.trans h.tape,k.output.trans h.output,qK h.size k.size,λj a b=>
  (k.block j (Ag a h.size) (λd=>by rcases c j d with g|g;exact b g;omega)).trans (h.block j a b)⟩
theorem Kept.mono(h:Kept S w w')(c:∀j,S j->T j):Kept T w w':=⟨h.os,h.tape,h.output,h.size,λj a b=>h.block j a (λg=>b (c j g))⟩
theorem Kept.none(h:Kept NoB w w')(S:Nat->Prop):Kept S w w':=h.mono λ_ g=>g.elim
theorem Kept.drew(h:Kept S w w'):Kept S w w'.drew:=⟨h.os,h.tape,h.output,h.size,h.block⟩
theorem Kept.drewN(h:Kept S w w')(n:Nat):Kept S w (w'.drewN n):=⟨h.os,h.tape,h.output,h.size,h.block⟩
theorem Kept.alloc(h:Kept S w w')(o:Obj):Kept S w (w'.alloc o):=
 h.trans (T:=NoB) ⟨rfl,rfl,rfl,by simp,λk a _=>Below.heap_alloc _ _ _ a⟩ (λ_ g=>g.elim)
theorem Kept.setCell(h:Kept S w w')(a:Addr)(b:S a.block\/w.heap.size<=a.block)(u:Value):Kept S w (w'.setCell a u):=
 h.trans (T:=λj=>j=a.block) ⟨rfl,rfl,rfl,by simp[World.setCell],λk c g=>Below.heap_setCell _ _ _ _ g⟩ (λ_ g=>by subst g;exact b)
theorem Kept.grown(h:Kept S w w'){row:Option Nat}(a:w'.grownBy w'' row)(b:∀k,row=some k->S k\/w.heap.size<=k):Kept S w w'':=
 h.trans (T:=λj=>row=some j) ⟨a.os,a.tape,a.output,a.size,λk c g=>a.block k c (λe=>g e.symm)⟩ b
theorem Kept.of_grown{row:Option Nat}(b:w.grownBy w' row):Kept (λj=>row=some j) w w':=(Kept.refl _ w).grown b (λk a=> .inl a)
theorem Kept.below(h:Kept S w w'){B:Nat}(a:B<=w.heap.size)(b:∀j,S j->B<=j):Below B w w':=
 ⟨h.os,h.tape,h.output,h.size,λk c=>h.block k (Ag c a) (λg=>by have:=b k g;omega)⟩
theorem Kept.of_below(h:Below w.heap.size w w'):Kept NoB w w':=⟨h.os,h.tape,h.output,h.size,λk a _=>h.block k a⟩
theorem Kept.cell(h:Kept S w w'){a:Addr}{v:Value}(b:w.cell? a=some v)(c:¬S a.block):w'.cell? a=some v:=
 (World.cell?_of_block (h.block a.block (World.block_lt_of_cell? w a b) c)).trans b
theorem Kept.frozen(h:Kept S w w'){a:Addr}(c:a.block<w.heap.size)(b:¬S a.block):w'.frozen? a=w.frozen? a:=World.frozen?_of_block (h.block a.block c b)
theorem aM{B:Nat}{e:TypeId}{size n:Nat}{v:Value}{xs:List Value}(h:w.ownsRow B e size v n xs)(c:∀g,v.ownBlock=some g->w'.heap[g]? =w.heap[g]?):w'.ownsRow B e size v n xs:=by
 obtain⟨b,a⟩:=h;refine⟨b,?_⟩;rcases a with a|⟨g,cap,cur,rfl,hg,hh,r⟩
 · exact .inl a
 · exact .inr ⟨g,cap,cur,rfl,hg,by rw[c g rfl];exact hh,r⟩
theorem Kept.own{B:Nat}{e:TypeId}{size n:Nat}{v:Value}{xs:List Value}(h:Kept S w w')(b:w.ownsRow B e size v n xs)(c:∀g,v.ownBlock=some g->¬S g):w'.ownsRow B e size v n xs:=
 aM b λg a=>h.block g (b.lt g a).2 (c g a)
end M
section
open Go.RowKit M
def TL(f:Nat->Nat):List Value:=(List.range 16).map λi=>Value.int .u32 (f i)
def TV(f:Nat->Nat):Array Value:=(TL f).toArray
theorem gi(f:Nat->Nat):(TL f).length=16:=by unfold TL;rw[Ah,Dt]
theorem dj(f:Nat->Nat):(TV f).size=16:=by unfold TV;rw[AE,gi]
theorem Kt(f:Nat->Nat)(i:Nat)(h:i<16):(TL f)[i]? =some (.int .u32 (f i)):=by
 unfold TL;rw[Am,Bj h];rfl
theorem Im(f:Nat->Nat)(i:Nat)(h:i<16):(TV f)[i]? =some (.int .u32 (f i)):=by
 unfold TV;rw[Cb,Kt f i h]
theorem Ks(f:Nat->Nat):∀v∈TL f,v.oneCell'=true:=by
 intro v a;obtain⟨i,_,rfl⟩:=Ay.1 a;rfl
theorem EY(f:Nat->Nat):(TV f).all (·.oneCell')=true:=all_oneCell_toArray (Ks f)
def Tb(w:World)(b:Nat)(f:Nat->Nat):Prop:=w.rowIs b 372 16 (λi=> .int .u32 (f i))
theorem Tb.row{w:World}{b:Nat}{f:Nat->Nat}(h:Tb w b f):w.heap[b]? =some (.cells (TV f) 372 (0,0)):=by
 obtain⟨c,d,e,a⟩:=h;rw[d];congr 2;apply Cl;intro i;by_cases hi:i<16
 · rw[a i hi,Im f i hi]
 · rw[AT (by omega),AT (by rw[dj];omega)]
theorem Tb.of_row{w:World}{b:Nat}{f:Nat->Nat}(h:w.heap[b]? =some (.cells (TV f) 372 (0,0))):Tb w b f:=⟨_,h,dj f,λi hi=>Im f i hi⟩
theorem Tb.range{w:World}{b:Nat}{f:Nat->Nat}(h:Tb w b f):w.rangeAt b 0 (TL f):=by
 intro j v a;rw[Aa];have c:j<16:=(by have:=(An.1 a).1;rwa [gi] at this);rw[World.rowIs.cell h c];rw[Kt f j c] at a;exact a
theorem Tb.cell{w:World}{b:Nat}{f:Nat->Nat}(h:Tb w b f){i:Nat}(hi:i<16):w.cell? ⟨b,i,none⟩=some (.int .u32 (f i)):=World.rowIs.cell h hi
theorem Tb.frozen{w:World}{b:Nat}{f:Nat->Nat}(h:Tb w b f)(i:Nat):w.frozen? ⟨b,i,none⟩=false:=World.rowIs.frozen h i
theorem Tb.congr{w:World}{b:Nat}{f g:Nat->Nat}(h:Tb w b f)(e:∀i,i<16->f i=g i):Tb w b g:=World.rowIs.congr h (λi hi=>by rw[e i hi])
theorem Tb.set{w:World}{b:Nat}{f:Nat->Nat}(h:Tb w b f)(i v:Nat):Tb (w.setCell ⟨b,i,none⟩ (.int .u32 v)) b (λj=>if j=i then v else f j):=
 World.rowIs.congr (World.rowIs.set h i (.int .u32 v)) (λj a=>by by_cases e:j=i<;>simp[e])
theorem Tb.alloc{w:World}{b:Nat}{f:Nat->Nat}(h:Tb w b f)(o:Obj):Tb (w.alloc o) b f:=World.rowIs.alloc h o
theorem Tb.other{w:World}{b:Nat}{f:Nat->Nat}(h:Tb w b f){a:Addr}(c:b≠a.block)(v:Value):Tb (w.setCell a v) b f:=World.rowIs.setOther h c v
theorem Tb.below{w w':World}{b B:Nat}{f:Nat->Nat}(h:Tb w b f)(c:Below B w w')(a:b<B):Tb w' b f:=World.rowIs.of_block h (c.block b a)
theorem Tb.made(w:World)(f:Nat->Nat):Tb (w.alloc (.cells (TV f) 372)) w.heap.size f:=Tb.of_row (heap_alloc_new w _)
theorem wF:(prog.info? 372).map (λi=>(i.zero,i.size))=some (some (.agg (TV λ_=>0)),16):=by kernel_rfl
theorem bW(w:World):(zeroValue 372).run prog w=.ok (.agg (TV λ_=>0)) w:=(zero_of_info wF).1 w
theorem wE:(prog.info? 372).map (·.size)=some 16:=(zero_of_info wF).2
theorem eX(f:Nat->Nat):(prog.info? 372).map (·.size)=some (TV f).size:=by rw[dj];exact wE
theorem zN(f:Nat->Nat):(prog.info? 372).map (·.size)=some (TL f).length:=by rw[gi];exact wE
variable {ops:Array Oper} {rest:List Oper} {op:Oper} {a:Act} {w:World} {Q:Exit->Act->World->Prop}
theorem aH(x:Operand)(e:op.op=.load 372 x)(i:Region.wanted op (yielded ops a.tmps)=true)(b:Nat)(d:a.eval x=.pointer (some ⟨b,0,none⟩))(f:Nat->Nat)(c:Tb w b f)
 (h:wpList prog ops Q rest (a.put op.dst (.agg (TV f))) w):wpList prog ops Q (op::rest) a w:=
 wpList_step λK j=>by
  rw[A7 i];exact wp_load_mid 372 x e b 0 d (TL f) _ c.range underlying372 rfl (zN f) (j _ _ h)
theorem aL(d:op.guard=none)(x y:Operand)(e:op.op=.store 372 x y)(f g:Nat->Nat)(b:a.eval x=.pointer (some ⟨w.heap.size,0,none⟩))(c:a.eval y=.agg (TV g))
 (h:wpList prog ops Q rest (a.put op.dst undef) (w.alloc (.cells (TV g) 372))):wpList prog ops Q (op::rest) a (w.alloc (.cells (TV f) 372)):=
 wpList_plain d λK i=>by
  refine wp_store_row 372 x y e w.heap.size (TV g) b c 372 (TV f) (heap_alloc_new w _) (eX g) (by rw[dj,dj]) (EY g) ?_
  rw[World.setRow_alloc_new];exact i _ _ h
theorem Tb.setRow{w:World}{b:Nat}{f:Nat->Nat}(h:Tb w b f)(g:Nat->Nat):Tb (w.setRow b (TV g)) b g:=Tb.of_row (setRow_heap w b _ _ _ _ h.row)
theorem below_setRow{B:Nat}{w0 w:World}(h:Below B w0 w)(b:Nat)(c:Array Value)(e:B<=b):Below B w0 (w.setRow b c):=
 h.trans ⟨rfl,rfl,rfl,by simp[World.setRow],λk d=>by
  simp only[World.setRow,BT];rw[A0 (by omega)]⟩
theorem cR(i:op.guard=none)(x y:Operand)(j:op.op=.store 372 x y)(b:Nat)(f g:Nat->Nat)(d:a.eval x=.pointer (some ⟨b,0,none⟩))(e:a.eval y=.agg (TV g))(c:Tb w b f)
 (h:wpList prog ops Q rest (a.put op.dst undef) (w.setRow b (TV g))):wpList prog ops Q (op::rest) a w:=
 wpList_plain i λK l=>
  wp_store_row 372 x y j b (TV g) d e 372 (TV f) c.row (eX g) (by rw[dj,dj]) (EY g) (l _ _ h)
theorem LO(w:World)(f:Nat->Nat)(k:Nat)(e:k<16):(Instr.index 372 (.agg (TV f)) (.int .i64 k)).run prog w=.ok (.int .u32 (f k)) w:=by
 have c:(0:Int)<=k/\(k:Int)<(16:Nat):=⟨by omega,by omega⟩;have d:=Im f k e;have hs:(sizeOf 35).run prog w=.ok 1 w:=(by kernel_rfl);have b:(isAgg 35).run prog w=.ok false w:=(by kernel_rfl);simp[Instr.index,asIntOf,run_underlying underlying372,c,hs,part,b,d,Result.andThen];intro g;omega
end
namespace M
def lx(p q:Nat×Nat):Prop:=p.1<q.1\/(p.1=q.1/\p.2<q.2)
theorem lx.trans{p q r:Nat×Nat}(h:lx p q)(k:lx q r):lx p r:=by unfold lx at*;omega
theorem lx.irr{p:Nat×Nat}(h:lx p p):False:=by unfold lx at h;omega
def Ord(e:Nat->Nat×Nat)(a b:Nat):Prop:=∀i j,a<=i->i<j->j<b->lx (e i) (e j)
def Rel(e:Nat->Nat×Nat)(a m b:Nat):Prop:=∀i j,a<=i->i<m->m<=j->j<b->(e i).1=(e j).1->(e i).2<(e j).2
structure bT(e e':Nat->Nat×Nat)(a b:Nat):Prop where
 o:∀i,i<a\/b<=i->e' i=e i
 fro:∀i,a<=i->i<b->∃j,a<=j/\j<b/\e' i=e j
 to:∀i,a<=i->i<b->∃j,a<=j/\j<b/\e i=e' j
section
variable {e e' e'':Nat->Nat×Nat} {a b m c d i j k n:Nat}
theorem bT.refl(e:Nat->Nat×Nat)(a b:Nat):bT e e a b:=⟨λ_ _=>rfl,λi h g=>⟨i,h,g,rfl⟩,λi h g=>⟨i,h,g,rfl⟩⟩
theorem bT.trans(h:bT e e' a b)(k:bT e' e'' a b):bT e e'' a b:=by
 refine⟨λi hi=>(k.o i hi).trans (h.o i hi),λi s v=> ?_,λi s v=> ?_⟩
 · obtain⟨j,p,u,q⟩:=k.fro i s v
   obtain⟨l,t,x,r⟩:=h.fro j p u;exact⟨l,t,x,q.trans r⟩
 · obtain⟨j,p,u,q⟩:=h.to i s v
   obtain⟨l,t,x,r⟩:=k.to j p u;exact⟨l,t,x,q.trans r⟩
theorem bT.wide(h:bT e e' a b)(v:c<=a)(u:b<=d):bT e e' c d:=by
 refine⟨λi hi=>h.o i (by omega),λi l p=> ?_,λi l p=> ?_⟩
 · by_cases q:a<=i/\i<b
   · obtain⟨j,s,t,r⟩:=h.fro i q.1 q.2
     exact⟨j,by omega,by omega,r⟩
   · exact⟨i,l,p,h.o i (by omega)⟩
 · by_cases q:a<=i/\i<b
   · obtain⟨j,s,t,r⟩:=h.to i q.1 q.2
     exact⟨j,by omega,by omega,r⟩
   · exact⟨i,l,p,(h.o i (by omega)).symm⟩
theorem Ord.sub(h:Ord e a b)(r:a<=c)(p:d<=b):Ord e c d:=λi j o l q=>h i j (by omega) l (by omega)
theorem Ord.congr(h:Ord e a b)(q:∀i,a<=i->i<b->e' i=e i):Ord e' a b:=λi j l p o=>by
 rw[q i l (by omega),q j (by omega) o];exact h i j l p o
theorem Ord.le(h:Ord e a b)(l:a<=i)(p:i<=j)(o:j<b):e i=e j\/lx (e i) (e j):=by
 by_cases q:i=j
 · subst q;exact .inl rfl
 · exact .inr (h i j l (by omega) o)
def swp(e:Nat->Nat×Nat)(i j t:Nat):Nat×Nat:=if t=i then e j else if t=j then e i else e t
def mvd(e:Nat->Nat×Nat)(j i t:Nat):Nat×Nat:=if t=j then e i else if j<t/\t<=i then e (t - 1) else e t
def mvu(e:Nat->Nat×Nat)(i k t:Nat):Nat×Nat:=if t=k then e i else if i<=t/\t<k then e (t+1) else e t
def swr(e:Nat->Nat×Nat)(a b n t:Nat):Nat×Nat:=if a<=t/\t<a+n then e (t - a+b) else if b<=t/\t<b+n then e (t - b+a) else e t
def rot(e:Nat->Nat×Nat)(a m b t:Nat):Nat×Nat:=if a<=t/\t<a+(b - m) then e (t - a+m) else if a+(b - m)<=t/\t<b then e (t - (a+(b - m))+a) else e t
theorem ov(e:Nat->Nat×Nat)(i t:Nat):mvd e i i t=e t:=by
 unfold mvd;split
 · subst_vars;rfl
 · rw[A0 (by omega)]
theorem j6(e:Nat->Nat×Nat){j i:Nat}(q:0<j)(h:j<=i)(t:Nat):swp (mvd e j i) j (j - 1) t=mvd e (j - 1) i t:=by
 unfold swp mvd;by_cases o:t=j
 · subst o
   rw[A7 rfl,A0 (by omega),A0 (by omega),A0 (by omega),A7 (by omega)]
 · rw[A0 o]
   by_cases l:t=j - 1
   · rw[A7 l,A7 rfl,A7 l]
   · rw[A0 l,A0 o,A0 l]
     by_cases p:j<t/\t<=i
     · rw[A7 p,A7 (by omega)]
     · rw[A0 p,A0 (by omega)]
theorem yi(e:Nat->Nat×Nat)(i t:Nat):mvu e i i t=e t:=by
 unfold mvu;split
 · subst_vars;rfl
 · rw[A0 (by omega)]
theorem yh(e:Nat->Nat×Nat){i k:Nat}(h:i<=k)(t:Nat):swp (mvu e i k) k (k+1) t=mvu e i (k+1) t:=by
 unfold swp mvu;by_cases o:t=k
 · subst o
   rw[A7 rfl,A0 (by omega),A0 (by omega),A0 (by omega),A7 (by omega)]
 · rw[A0 o]
   by_cases l:t=k+1
   · rw[A7 l,A7 rfl,A7 l]
   · rw[A0 l,A0 o,A0 l]
     by_cases p:i<=t/\t<k
     · rw[A7 p,A7 (by omega)]
     · rw[A0 p,A0 (by omega)]
theorem xi(e:Nat->Nat×Nat)(a b t:Nat):swr e a b 0 t=e t:=by
 unfold swr;rw[A0 (by omega),A0 (by omega)]
theorem xh(e:Nat->Nat×Nat){a b k:Nat}(h:a+k<b)(t:Nat):swp (swr e a b k) (a+k) (b+k) t=swr e a b (k+1) t:=by
 unfold swp swr;by_cases l:t=a+k
 · subst l
   rw[A7 rfl,A0 (by omega),A0 (by omega),A7 (by omega)];congr 1;omega
 · rw[A0 l]
   by_cases o:t=b+k
   · subst o
     rw[A7 rfl,A0 (by omega),A0 (by omega),A0 (by omega),A7 (by omega)];congr 1;omega
   · rw[A0 o]
     by_cases q:a<=t/\t<a+k
     · rw[A7 q,A7 (by omega)]
     · rw[A0 q,A0 (show ¬(a<=t/\t<a+(k+1)) by omega)]
       by_cases p:b<=t/\t<b+k
       · rw[A7 p,A7 (by omega)]
       · rw[A0 p,A0 (by omega)]
theorem xz(e:Nat->Nat×Nat){m i j:Nat}(hi:i<=m)(h:j<i)(t:Nat):rot (swr e (m - i) m j) (m - (i - j)) m (m+j) t=rot e (m - i) m (m+j) t:=by
 unfold rot swr;by_cases l:t<m - i
 · rw[A0 (by omega),A0 (by omega),A0 (by omega),A0 (by omega),A0 (by omega),A0 (by omega)]
 by_cases o:t<m - i+j
 · rw[A0 (by omega),A0 (by omega),A7 (by omega),A7 (by omega)]
 by_cases q:t<m - i+j+j
 · rw[A7 (by omega),A0 (by omega),A7 (by omega),A0 (by omega),A7 (by omega)]
   congr 1;omega
 by_cases p:t<m+j
 · rw[A0 (by omega),A7 (by omega),A0 (by omega),A0 (by omega),A0 (by omega),A7 (by omega)]
   congr 1;omega
 · rw[A0 (by omega),A0 (by omega),A0 (by omega),A0 (by omega),A0 (by omega),A0 (by omega)]
theorem th(e:Nat->Nat×Nat){m i j:Nat}(hi:i<=m)(h:i<j)(t:Nat):rot (swr e (m - i) (m+j - i) i) (m - i) m (m+(j - i)) t=rot e (m - i) m (m+j) t:=by
 unfold rot swr;by_cases l:t<m - i
 · rw[A0 (by omega),A0 (by omega),A0 (by omega),A0 (by omega),A0 (by omega),A0 (by omega)]
 by_cases p:t<m - i+(j - i)
 · rw[A7 (by omega),A7 (show m - i<=t/\t<m - i+(m+j - m) by omega)]
   by_cases r:t - (m - i)+m<m+j - i
   · rw[A0 (by omega),A0 (by omega)]
   · omega
 by_cases o:t<m+(j - i)
 · rw[A0 (by omega),A7 (by omega),A7 (by omega),A7 (by omega)]
   congr 1;omega
 by_cases q:t<m+j
 · rw[A0 (by omega),A0 (by omega),A0 (by omega),A7 (by omega),A0 (by omega),A7 (by omega)]
   congr 1;omega
 · rw[A0 (by omega),A0 (by omega),A0 (by omega),A0 (by omega),A0 (by omega),A0 (by omega)]
theorem FZ(e:Nat->Nat×Nat){m i:Nat}(hi:i<=m)(t:Nat):swr e (m - i) m i t=rot e (m - i) m (m+i) t:=by
 unfold rot swr;by_cases l:t<m - i
 · rw[A0 (by omega),A0 (by omega),A0 (by omega),A0 (by omega)]
 by_cases o:t<m
 · rw[A7 (by omega),A7 (by omega)]
 by_cases p:t<m+i
 · rw[A0 (by omega),A7 (by omega),A0 (by omega),A7 (by omega)]
   congr 1;omega
 · rw[A0 (by omega),A0 (by omega),A0 (by omega),A0 (by omega)]
theorem nW(e:Nat->Nat×Nat){a m b:Nat}(h:a<=m)(g:m<=b)(q:a=m\/m=b)(t:Nat):rot e a m b t=e t:=by
 unfold rot;by_cases l:a<=t/\t<a+(b - m)
 · rw[A7 l];congr 1;omega
 · rw[A0 l]
   by_cases o:a+(b - m)<=t/\t<b
   · rw[A7 o];congr 1;omega
   · rw[A0 o]
theorem nV(e:Nat->Nat×Nat){a m b:Nat}(h:a<=m)(g:m<=b):bT e (rot e a m b) a b:=by
 refine⟨λi hi=> ?_,λi l o=> ?_,λi l o=> ?_⟩
 · unfold rot;rw[A0 (by omega),A0 (by omega)]
 · unfold rot
   by_cases q:i<a+(b - m)
   · rw[A7 ⟨l,q⟩];exact⟨_,by omega,by omega,rfl⟩
   · rw[A0 (by omega),A7 (by omega)];exact⟨_,by omega,by omega,rfl⟩
 · by_cases q:i<m
   · refine⟨i+(b - m),by omega,by omega,?_⟩
     unfold rot;rw[A0 (by omega),A7 (by omega)];congr 1;omega
   · refine⟨i - m+a,by omega,by omega,?_⟩
     unfold rot;rw[A7 (by omega)];congr 1;omega
theorem j7(e:Nat->Nat×Nat){a b j i:Nat}(p:a<=j)(v:j<=i)(s:i<b):bT e (mvd e j i) a b:=by
 refine⟨λt u=> ?_,λt l o=> ?_,λt l o=> ?_⟩
 · unfold mvd;rw[A0 (by omega),A0 (by omega)]
 · unfold mvd
   split
   · exact⟨i,by omega,s,rfl⟩
   · split
     · exact⟨t - 1,by omega,by omega,rfl⟩
     · exact⟨t,l,o,rfl⟩
 · by_cases q:t=i
   · subst q;exact⟨j,p,by omega,by unfold mvd;rw[A7 rfl]⟩
   · by_cases r:j<=t/\t<i
     · exact⟨t+1,by omega,by omega,by unfold mvd;rw[A0 (by omega),A7 (by omega)];congr 1⟩
     · exact⟨t,l,o,by unfold mvd;rw[A0 (by omega),A0 (by omega)]⟩
theorem yj(e:Nat->Nat×Nat){a b i k:Nat}(s:a<=i)(v:i<=k)(p:k<b):bT e (mvu e i k) a b:=by
 refine⟨λt u=> ?_,λt l o=> ?_,λt l o=> ?_⟩
 · unfold mvu;rw[A0 (by omega),A0 (by omega)]
 · unfold mvu
   split
   · exact⟨i,by omega,by omega,rfl⟩
   · split
     · exact⟨t+1,by omega,by omega,rfl⟩
     · exact⟨t,l,o,rfl⟩
 · by_cases q:t=i
   · subst q;exact⟨k,by omega,p,by unfold mvu;rw[A7 rfl]⟩
   · by_cases r:i<t/\t<=k
     · exact⟨t - 1,by omega,by omega,by unfold mvu;rw[A0 (by omega),A7 (by omega)];congr 1;omega⟩
     · exact⟨t,l,o,by unfold mvu;rw[A0 (by omega),A0 (by omega)]⟩
theorem mg{e:Nat->Nat×Nat}{a m i:Nat}(h:Ord e a m)(B:∀t,a<=t->t<m->(e t).1=(e m).1->(e t).2<(e m).2)(C:a<=i)(D:i<=m)
 (z:∀t,i<=t->t<m->(e m).1<(e t).1) (E:i=a\/(e (i - 1)).1<=(e m).1):Ord (mvd e i m) a (m+1):=by
 have lo:∀t,a<=t->t<i->lx (e t) (e m):=by
  intro t l s;have q:lx (e (i - 1)) (e m):=by
   have:=B (i - 1) (by omega) (by omega);unfold lx;omega
  rcases h.le l (show t<=i - 1 by omega) (by omega) with r|r
  · rw[r];exact q
  · exact r.trans q
 have hi:∀t,i<=t->t<m->lx (e m) (e t):=λt l s=> .inl (z t l s)
 intro x y l s F;unfold mvd;by_cases u:x=i
 · rw[A7 u,A0 (by omega),A7 (by omega)];exact hi _ (by omega) (by omega)
 · rw[A0 u]
   by_cases v:y=i
   · rw[A7 v,A0 (by omega)];exact lo _ l (by omega)
   · rw[A0 v]
     by_cases p:i<x/\x<=m
     · rw[A7 p,A7 (by omega)];exact h _ _ (by omega) (by omega) (by omega)
     · rw[A0 p]
       by_cases o:i<y/\y<=m
       · rw[A7 o];exact h _ _ l (by omega) (by omega)
       · rw[A0 o];exact h _ _ l s (by omega)
theorem Gs{e:Nat->Nat×Nat}{a b i:Nat}(h:Ord e (a+1) b)(z:∀t,a+1<=t->t<b->(e a).1=(e t).1->(e a).2<(e t).2)(B:a+1<=i)(C:i<=b)
 (D:i=a+1\/(e (i - 1)).1<(e a).1) (E:i=b\/(e a).1<=(e i).1):Ord (mvu e a (i - 1)) a b:=by
 have lo:∀t,a+1<=t->t<i->lx (e t) (e a):=by
  intro t p s;have q:lx (e (i - 1)) (e a):=.inl (by omega);rcases h.le p (show t<=i - 1 by omega) (by omega) with r|r
  · rw[r];exact q
  · exact r.trans q
 have hi:∀t,i<=t->t<b->lx (e a) (e t):=by
  intro t p s;have q:lx (e a) (e i):=by
   have:=z i (by omega) (by omega);unfold lx;omega
  rcases h.le (show a+1<=i by omega) p s with r|r
  · rw[<-r];exact q
  · exact q.trans r
 intro x y p s F;unfold mvu;by_cases u:x=i - 1
 · rw[A7 u,A0 (by omega),A0 (by omega)];exact hi _ (by omega) (by omega)
 · rw[A0 u]
   by_cases v:y=i - 1
   · rw[A7 v,A7 (by omega)];exact lo _ (by omega) (by omega)
   · rw[A0 v]
     by_cases o:a<=x/\x<i - 1
     · rw[A7 o]
       by_cases l:a<=y/\y<i - 1
       · rw[A7 l];exact h _ _ (by omega) (by omega) (by omega)
       · rw[A0 l];exact h _ _ (by omega) (by omega) (by omega)
     · rw[A0 o,A0 (by omega)];exact h _ _ (by omega) (by omega) (by omega)
theorem vw{e:Nat->Nat×Nat}{a m b s f d:Nat}(u:Ord e a m)(x:Ord e m b)(C:Rel e a m b)(F:a<=s)(I:s<=m)(D:m<=f)(J:f<=b)(K:d=s+(f - m))
 (L:s=a\/f=b\/(e (s - 1)).1<=(e f).1) (H:f=m\/s=m\/(e (f - 1)).1<(e s).1):
 (Ord (rot e s m f) a s/\Ord (rot e s m f) s d/\Rel (rot e s m f) a s d)/\(Ord (rot e s m f) d f/\Ord (rot e s m f) f b/\Rel (rot e s m f) d f b)/\(∀i j,a<=i->i<d->d<=j->j<b->lx (rot e s m f i) (rot e s m f j)):=by
 have y:∀t,t<s->rot e s m f t=e t:=λt G=>by unfold rot;rw[A0 (by omega),A0 (by omega)]
 have z:∀t,s<=t->t<d->rot e s m f t=e (t - s+m):=λt l p=>by unfold rot;rw[A7 (by omega)]
 have v:∀t,d<=t->t<f->rot e s m f t=e (t - d+s):=λt l p=>by
  unfold rot;rw[A0 (by omega),A7 (by omega)];congr 1;omega
 have r:∀t,f<=t->rot e s m f t=e t:=λt G=>by unfold rot;rw[A0 (by omega),A0 (by omega)]
 refine⟨⟨?_,?_,?_⟩,⟨?_,?_,?_⟩,?_⟩
 · intro i j l p o;rw[y i (by omega),y j o];exact u i j l p (by omega)
 · intro i j l p o;rw[z i l (by omega),z j (by omega) o];exact x _ _ (by omega) (by omega) (by omega)
 · intro i j l p o q;rw[y i p,z j o q];exact C _ _ l (by omega) (by omega) (by omega)
 · intro i j l p o;rw[v i l (by omega),v j (by omega) o];exact u _ _ (by omega) (by omega) (by omega)
 · intro i j l p o;rw[r i l,r j (by omega)];exact x _ _ (by omega) (by omega) (by omega)
 · intro i j l p o q;rw[v i l p,r j o];exact C _ _ (by omega) (by omega) (by omega) q
 · intro i j l p o q
   by_cases E:i<s
   · rw[y i E]
     by_cases B:j<f
     · rw[v j o B];exact u _ _ l (by omega) (by omega)
     · rw[r j (by omega)]
       have k:lx (e (s - 1)) (e f):=by
        have:=C (s - 1) f (by omega) (by omega) D (by omega);unfold lx;omega
       have k1:=u.le l (show i<=s - 1 by omega) (by omega);have k2:=x.le D (show f<=j by omega) q;rcases k1 with k1|k1<;>rcases k2 with k2|k2
       · rw[k1,<-k2];exact k
       · rw[k1];exact k.trans k2
       · rw[<-k2];exact k1.trans k
       · exact(k1.trans k).trans k2
   · rw[z i (by omega) p]
     by_cases B:j<f
     · rw[v j o B]
       have k:lx (e (f - 1)) (e s):=.inl (by omega);have k1:=x.le (show m<=i - s+m by omega) (show i - s+m<=f - 1 by omega) (by omega);have k2:=u.le F (show s<=j - d+s by omega) (show j - d+s<m by omega);rcases k1 with k1|k1<;>rcases k2 with k2|k2
       · rw[k1,<-k2];exact k
       · rw[k1];exact k.trans k2
       · rw[<-k2];exact k1.trans k
       · exact(k1.trans k).trans k2
     · rw[r j (by omega)];exact x _ _ (by omega) (by omega) q
theorem eR{e p s:Nat->Nat×Nat}{a d b:Nat}(C:∀i j,a<=i->i<d->d<=j->j<b->lx (e i) (e j))(v:bT e p a d)(l:bT p s d b)(I:Ord p a d)(E:Ord s d b):Ord s a b:=by
 intro i j t u z;by_cases G:i<d
 · by_cases H:j<d
   · rw[l.o i (by omega),l.o j (by omega)];exact I i j t u H
   · obtain⟨x,F,J,q⟩:=v.fro i t G
     obtain⟨y,B,D,r⟩:=l.fro j (by omega) z;rw[l.o i (by omega),q,r,v.o y (by omega)];exact C x y F J B D
 · exact E i j (by omega) u z
theorem Gm{e e':Nat->Nat×Nat}{n n':Nat}(h:Ord e 0 n)(h':Ord e' 0 n')(q:∀i,i<n->∃j,j<n'/\e i=e' j)(z:∀i,i<n'->∃j,j<n/\e' i=e j):n=n'/\∀i,i<n->e i=e' i:=by
 have t:∀k,k<=n->k<=n'->∀i,i<k->e i=e' i:=by
  intro k
  induction k with
  |zero=>intro _ _ i hi;omega
  |succ k ih=>
   intro F G i hi;have u:=ih (by omega) (by omega);by_cases c:i<k
   · exact u i c
   · obtain rfl:i=k:=by omega
     obtain⟨x,D,v⟩:=q i (by omega);obtain⟨y,p,o⟩:=z i (by omega);have B:i<=x:=by
      apply CA;intro l
      have:=h x i qZ l (by omega);rw[v,u x l] at this;exact this.irr
     have C:i<=y:=by
      apply CA;intro l
      have:=h' y i qZ l (by omega);rw[o,<-u y l] at this;exact this.irr
     rcases h'.le qZ B D with r|r
     · rw[v,<-r]
     · rcases h.le qZ C p with s|s
       · rw[s,<-o]
       · rw[<-o,v] at s;exact(r.trans s).irr.elim
 have H:¬n<n':=by
  intro l;obtain⟨y,p,o⟩:=z n l;rw[t n qR (by omega) y p] at o;have:=h' y n qZ p l;rw[o] at this;exact this.irr
 have E:¬n'<n:=by
  intro l;obtain⟨y,p,o⟩:=q n' l;rw[<-t n' (by omega) qR y p] at o;have:=h y n' qZ p l;rw[o] at this;exact this.irr
 obtain rfl:n=n':=by omega
 exact⟨rfl,t n qR qR⟩
end
structure Mem(e e':Nat->Nat×Nat)(a b:Nat):Prop where
 fro:∀i,a<=i->i<b->∃j,a<=j/\j<b/\e' i=e j
 to:∀i,a<=i->i<b->∃j,a<=j/\j<b/\e i=e' j
def Inc(e:Nat->Nat×Nat)(n:Nat):Prop:=∀i j,i<j->j<n->(e i).2<(e j).2
def Blk(e0 e:Nat->Nat×Nat)(bs lo hi n:Nat):Prop:=∀p,lo<=p*bs->p*bs<hi->Ord e (p*bs) (min (p*bs+bs) n)/\Mem e0 e (p*bs) (min (p*bs+bs) n)
section
variable {e0 e e':Nat->Nat×Nat} {a b c d m n q bs:Nat}
theorem bT.mem(h:bT e e' a b):Mem e e' a b:=⟨h.fro,h.to⟩
theorem Mem.trans{x y:Nat->Nat×Nat}(h:Mem e0 x a b)(k:Mem x y a b):Mem e0 y a b:=by
 refine⟨λi p u=> ?_,λi p u=> ?_⟩
 · obtain⟨j,o,t,q⟩:=k.fro i p u
   obtain⟨l,s,v,r⟩:=h.fro j o t;exact⟨l,s,v,q.trans r⟩
 · obtain⟨j,o,t,q⟩:=h.to i p u
   obtain⟨l,s,v,r⟩:=k.to j o t;exact⟨l,s,v,q.trans r⟩
theorem Mem.congr(h:Mem e0 e a b)(q:∀i,a<=i->i<b->e' i=e i):Mem e0 e' a b:=by
 refine⟨λi l o=> ?_,λi l o=> ?_⟩
 · rw[q i l o];exact h.fro i l o
 · obtain⟨j,p,s,r⟩:=h.to i l o
   exact⟨j,p,s,r.trans (q j p s).symm⟩
theorem Mem.join(h:Mem e0 e a b)(k:Mem e0 e b c)(t:a<=b)(u:b<=c):Mem e0 e a c:=by
 refine⟨λi p s=> ?_,λi p s=> ?_⟩
 · by_cases q:i<b
   · obtain⟨j,l,o,r⟩:=h.fro i p q;exact⟨j,l,by omega,r⟩
   · obtain⟨j,l,o,r⟩:=k.fro i (by omega) s;exact⟨j,by omega,o,r⟩
 · by_cases q:i<b
   · obtain⟨j,l,o,r⟩:=h.to i p q;exact⟨j,l,by omega,r⟩
   · obtain⟨j,l,o,r⟩:=k.to i (by omega) s;exact⟨j,by omega,o,r⟩
theorem Mem.of_eq(q:∀i,a<=i->i<b->e i=e0 i):Mem e0 e a b:=⟨λi l o=>⟨i,l,o,q i l o⟩,λi l o=>⟨i,l,o,(q i l o).symm⟩⟩
theorem Gu(hi:Inc e0 n)(o:Mem e0 e a m)(t:Mem e0 e m d)(C:d<=n):Rel e a m d:=by
 intro i j l s u p _;obtain⟨x,B,D,q⟩:=o.fro i l s;obtain⟨y,v,z,r⟩:=t.fro j u p;rw[q,r];exact hi x y (by omega) (by omega)
theorem pA(e0 e:Nat->Nat×Nat)(bs lo n:Nat):Blk e0 e bs lo 0 n:=λp _ h=>absurd h (by omega)
theorem eW(h:Blk e0 e bs 0 a n)(u:a=q*bs)(y:Ord e' a (min (a+bs) n))(hs:∀t,t<a->e' t=e t)(v:Mem e0 e' a (min (a+bs) n)):Blk e0 e' bs 0 (a+bs) n:=by
 intro p x C;rcases CE p q with g|g|g
 · have s:p*bs+bs<=a:=by
    have:=CF bs (show p+1<=q from g);rw[C9] at this;omega
   by_cases z:bs=0
   · subst z
     refine⟨λi j r l B=> ?_,λi r l=> ?_,λi r l=> ?_⟩<;>(rw[Nat.mul_zero] at*;omega)
   obtain⟨o,k⟩:=h p x (by omega);exact⟨o.congr (λt r l=>hs t (by omega)),k.congr (λt r l=>hs t (by omega))⟩
 · subst g;rw[<-u];exact⟨y,v⟩
 · have s:=CF bs (show q+1<=p from g)
   rw[C9] at s;omega
theorem vZ(h:Blk e0 e bs a n n)(o:a=q*(2*bs))(s:0<bs)(p:a<n):(Ord e a (min (a+bs) n)/\Mem e0 e a (min (a+bs) n))/\(a+bs<n->Ord e (a+bs) (min (a+2*bs) n)/\Mem e0 e (a+bs) (min (a+2*bs) n)):=by
 have l:2*q*bs=a:=(by rw[o,Ba 2,CT 2 q bs]);have r:(2*q+1)*bs=a+bs:=(by rw[C9,l]);refine⟨?_,λt=> ?_⟩
 · have:=h (2*q) (by omega) (by omega)
   rwa [l] at this
 · have:=h (2*q+1) (by omega) (by omega)
   rw[r,show a+bs+bs=a+2*bs by omega] at this;exact this
theorem lh(B:Blk e0 e (2*bs) 0 a n)(v:Blk e0 e bs a n n)(r:a=q*(2*bs))(y:0<bs)(x:a+bs<n)(hi:d=min (a+2*bs) n)(C:Ord e' a d)(hs:bT e e' a d):
 Blk e0 e' (2*bs) 0 (a+2*bs) n/\Blk e0 e' bs (a+2*bs) n n:=by
 obtain⟨⟨_,s⟩,k⟩:=vZ v r y (by omega);obtain⟨_,u⟩:=k x;rw[AS (by omega)] at s;rw[<-hi] at u;refine⟨eW B r (by rw[<-hi];exact C) (λt g=>hs.o t (.inl g)) (by rw[<-hi];exact(s.join u (by omega) (by omega)).trans hs.mem),?_⟩;intro p E D;obtain⟨o,l⟩:=v p (by omega) D;exact⟨o.congr (λt z l=>hs.o t (.inr (by omega))),l.congr (λt z l=>hs.o t (.inr (by omega)))⟩
theorem vY(v:Blk e0 e bs a n n)(s:a=q*(2*bs))(u:0<bs)(t:a+bs<n)(hi:d=min (a+2*bs) n)(x:Inc e0 n):Ord e a (a+bs)/\Ord e (a+bs) d/\Rel e a (a+bs) d:=by
 obtain⟨⟨p,r⟩,k⟩:=vZ v s u (by omega);obtain⟨l,o⟩:=k t;rw[AS (by omega)] at r p;rw[<-hi] at o l;exact⟨p,l,Gu x r o (by omega)⟩
theorem zC(r:Blk e0 e (2*bs) 0 a n)(x:Blk e0 e bs a n n)(l:a=q*(2*bs))(t:0<bs)(y:¬a+bs<n)(v:a<=n):Blk e0 e (2*bs) 0 n n:=by
 by_cases g:a=n
 · subst g;exact r
 · obtain⟨⟨s,o⟩,_⟩:=vZ x l t (by omega)
   rw[Bw (by omega)] at s o;have:=eW r l (e':=e) (by rw[Bw (by omega)];exact s) (λ_ _=>rfl) (by rw[Bw (by omega)];exact o);intro p u z;exact this p u (by omega)
theorem Ig(h:Blk e0 e bs 0 n n)(p:n<=bs):Ord e 0 n/\Mem e0 e 0 n:=by
 by_cases g:n=0
 · subst g;exact⟨λi j l o r=>by omega,λi l o=>by omega,λi l o=>by omega⟩
 · have:=h 0 (by omega) (by omega)
   rw[BU,Aa,Bw p] at this;exact this
theorem iB(h:Blk e0 e bs 0 (a+c) n)(r:n<=a+c):Blk e0 e bs 0 n n:=λp l o=>h p l (by omega)
end
end M
section
open Go.RowKit M
def cmv(x y:Nat):Int:=if x<y then -1 else if y<x then 1 else 0
theorem mf(x:Nat)(w:World):Calls prog 338 #[.int .u64 x] w λe w'=>e=.returned (.bool false)/\w=w':=by
 go_enter func338,ntmps338;go_wp2;go_ret;exact⟨by simp,rfl⟩
theorem Hy(x y:Nat)(w:World):Calls prog 321 #[.int .u64 x,.int .u64 y] w λe w'=>e=.returned (.int .i64 (cmv x y))/\w=w':=by
 by_cases p:x<y
 · have l:=qH (show cmv x y= -1 by unfold cmv;rw[A7 p])
   go_enter func321,ntmps321;go_wp2_with (refine(mf _ _).mono ?_;rintro e w' ⟨rfl,rfl⟩);go_ret;exact⟨by rw[l.o];rfl,rfl⟩
 · by_cases r:y<x
   · have l:=qH (show cmv x y=1 by unfold cmv;rw[A0 p,A7 r])
     go_enter func321,ntmps321;go_wp2_with (refine(mf _ _).mono ?_;rintro e w' ⟨rfl,rfl⟩);go_ret;exact⟨by rw[l.o];rfl,rfl⟩
   · have l:=qH (show cmv x y=0 by unfold cmv;rw[A0 p,A0 r])
     go_enter func321,ntmps321;go_wp2_with (refine(mf _ _).mono ?_;rintro e w' ⟨rfl,rfl⟩);go_ret;exact⟨by rw[l.o];rfl,rfl⟩
theorem less_any(x a y b:Nat)(w:World):Calls prog 320 #[.agg #[.int .u64 x,.int .i64 a,.pointer none],.agg #[.int .u64 y,.int .i64 b,.pointer none]] w λe w'=>e=.returned (.int .i64 (cmv x y))/\Below w.heap.size w w':=by
 go_enter func320,ntmps320;go_wp2_with (refine(Hy _ _ _).mono ?_;rintro e w' ⟨rfl,rfl⟩);go_ret;exact⟨rfl,(qL).alloc (by simp) _⟩
def Lfs(w:World)(b n:Nat)(e:Nat->Nat×Nat):Prop:=
 ∃c:Array Value,w.heap[b]? =some (.cells c 386 (0,0))/\n*3<=c.size/\∀i,i<n->c[i*3]? =some (.int .u64 (e i).1)/\c[i*3+1]? =some (.int .i64 (e i).2)/\c[i*3+2]? =some (.pointer none)
section
variable {w w':World} {b n:Nat} {e e':Nat->Nat×Nat}
theorem Lfs.lt(h:Lfs w b n e):b<w.heap.size:=by
 obtain⟨c,l,_⟩:=h;rcases By b w.heap.size with g|g
 · exact g
 · rw[AT g] at l;cases l
theorem Lfs.cells(h:Lfs w b n e){i:Nat}(hi:i<n):w.cell? ⟨b,i*3,none⟩=some (.int .u64 (e i).1)/\w.cell? ⟨b,i*3+1,none⟩=some (.int .i64 (e i).2)/\w.cell? ⟨b,i*3+2,none⟩=some (.pointer none):=by
 obtain⟨c,l,_,o⟩:=h;rw[cell_of_row w b _ c _ _ l,cell_of_row w b _ c _ _ l,cell_of_row w b _ c _ _ l];exact o i hi
theorem Lfs.frozen(h:Lfs w b n e)(i:Nat):w.frozen? ⟨b,i,none⟩=false:=by
 obtain⟨c,l,_⟩:=h;simp[World.frozen?,l]
theorem Lfs.congr(h:Lfs w b n e)(q:∀i,i<n->e i=e' i):Lfs w b n e':=by
 obtain⟨c,o,hs,l⟩:=h;exact⟨c,o,hs,λi hi=>by rw[<-q i hi];exact l i hi⟩
theorem Lfs.at'(h:Lfs w b n e)(q:w'.heap[b]? =w.heap[b]?):Lfs w' b n e:=by
 obtain⟨c,o,hs,l⟩:=h;exact⟨c,q.trans o,hs,l⟩
theorem Lfs.drew(h:Lfs w b n e):Lfs w.drew b n e:=h
theorem Lfs.below(h:Lfs w b n e){B:Nat}(o:Below B w w')(l:b<B):Lfs w' b n e:=h.at' (o.block b l)
theorem Lfs.set(h:Lfs w b n e)(i x y:Nat):Lfs (((w.setCell ⟨b,i*3,none⟩ (.int .u64 x)).setCell ⟨b,i*3+1,none⟩ (.int .i64 y)).setCell ⟨b,i*3+2,none⟩ (.pointer none)) b n (λj=>if j=i then(x,y) else e j):=by
 obtain⟨c,o,hs,u⟩:=h;refine⟨((c.setIfInBounds (i*3) (.int .u64 x)).setIfInBounds (i*3+1) (.int .i64 y)).setIfInBounds (i*3+2) (.pointer none),?_,by simp[hs],λj s=> ?_⟩
 · simp[World.setCell,BT,o]
 · obtain⟨p,v,r⟩:=u j s
   by_cases q:j=i
   · subst q
     have t:j*3<c.size:=(by omega);have z:j*3+1<c.size:=(by omega);have l:j*3+2<c.size:=(by omega);refine⟨?_,?_,?_⟩
     · rw[Ad,A0 (by omega),Ad,A0 (by omega),Ad,A7 rfl,A7 t];simp
     · rw[Ad,A0 (by omega),Ad,A7 rfl,A7 (by simpa using z)];simp
     · rw[Ad,A7 rfl,A7 (by simpa using l)]
   · refine⟨?_,?_,?_⟩
     · rw[Ad,A0 (by omega),Ad,A0 (by omega),Ad,A0 (by omega),p];simp[q]
     · rw[Ad,A0 (by omega),Ad,A0 (by omega),Ad,A0 (by omega),v];simp[q]
     · rw[Ad,A0 (by omega),Ad,A0 (by omega),Ad,A0 (by omega),r]
end
end
namespace M
structure Rn where
 s:Nat
 e:Nat
deriving DecidableEq,Inhabited
def tms(r:Rn):Nat:=if r.s<16/\r.e=0 then 1 else if r.s=16/\r.e<4 then 3+r.e else if r.s=17/\r.e<8 then 3+r.e else if r.s=18/\r.e<128 then 11+r.e else 0
def rbs(s:Nat):Int:=if s<16 then 0 else if s=16 then 2 else if s=17 then 3 else if s=18 then 7 else -1
theorem zY(r:Rn):tms r<=138:=by
 unfold tms
 repeat' split
 all_goals omega
theorem lI{v:Nat}(h:v<16):tms ⟨v,0⟩=1:=by unfold tms;rw[A7 ⟨h,rfl⟩]
theorem su{e:Nat}(h:e<4):tms ⟨16,e⟩=3+e:=by unfold tms;rw[A0 (λq=>by have:=q.1;simp at this),A7 ⟨rfl,h⟩]
theorem sr{e:Nat}(h:e<8):tms ⟨17,e⟩=3+e:=by unfold tms;rw[A0 (λq=>by have:=q.1;simp at this),A0 (λq=>by have:=q.1;simp at this),A7 ⟨rfl,h⟩]
theorem sq{e:Nat}(h:e<128):tms ⟨18,e⟩=11+e:=by unfold tms;rw[A0 (λq=>by have:=q.1;simp at this),A0 (λq=>by have:=q.1;simp at this),A0 (λq=>by have:=q.1;simp at this),A7 ⟨rfl,h⟩]
def zrs(n:Nat):List Rn:=
 if h:11<=n then⟨18,min n 138 - 11⟩::zrs (n - min n 138) else if 3<=n then[⟨17,n - 3⟩] else List.replicate n ⟨0,0⟩
termination_by n
decreasing_by omega
theorem bB{n:Nat}(h:11<=n):zrs n=⟨18,min n 138 - 11⟩::zrs (n - min n 138):=by rw[zrs,Bl h]
theorem bA{n:Nat}(h:¬11<=n)(l:3<=n):zrs n=[⟨17,n - 3⟩]:=by rw[zrs,Bz h,A7 l]
theorem aV{n:Nat}(l:¬3<=n):zrs n=List.replicate n ⟨0,0⟩:=by rw[zrs,Bz (by omega),A0 l]
def qs(v n:Nat):List Rn:=
 if h:3<=n then⟨16,min n 6 - 3⟩::qs v (n - min n 6) else List.replicate n ⟨v,0⟩
termination_by n
decreasing_by omega
theorem bf{v n:Nat}(h:3<=n):qs v n=⟨16,min n 6 - 3⟩::qs v (n - min n 6):=by rw[qs,Bl h]
theorem bE{v n:Nat}(h:¬3<=n):qs v n=List.replicate n ⟨v,0⟩:=by rw[qs,Bz h]
def oth(v n:Nat):List Rn:=⟨v,0⟩::qs v (n - 1)
def ru(v:Nat):List Nat->Nat
 |[]=>0
 |x::l=>if x=v then ru v l+1 else 0
theorem xt(v:Nat):∀l,ru v l<=l.length
 |[]=>qR
 |x::l=>by unfold ru;split;simp only[qC];have:=xt v l;omega;exact qZ
theorem lT(v:Nat):∀l,l.take (ru v l)=List.replicate (ru v l) v
 |[]=>rfl
 |x::l=>by
  unfold ru
  split
  · rename_i h;rw[AY,lT v l,h,BB]
  · rfl
def one(v n:Nat):List Rn:=if v=0 then zrs n else oth v n
def pk:List Nat->List Rn
 |[]=> []
 |v::l=>one v (ru v l+1)++pk (l.drop (ru v l))
termination_by l=>l.length
decreasing_by rw[AF,qC];omega
theorem gY:pk []=[]:=by rw[pk]
theorem aZ(v:Nat)(l:List Nat):pk (v::l)=one v (ru v l+1)++pk (l.drop (ru v l)):=by rw[pk]
theorem F0(n:Nat):(zrs n).length<=n:=by
 induction n using Nat.strongRecOn with
 |_ n ih=>
  by_cases h:11<=n
  · rw[bB h,qC];have:=ih (n - min n 138) (by omega);omega
  · by_cases l:3<=n
    · rw[bA h l,Bn];omega
    · rw[aV l,AP];exact qR
theorem xX(v n:Nat):(qs v n).length<=n:=by
 induction n using Nat.strongRecOn with
 |_ n ih=>
  by_cases h:3<=n
  · rw[bf h,qC];have:=ih (n - min n 6) (by omega);omega
  · rw[bE h,AP];exact qR
theorem tU(v n:Nat)(l:1<=n):(one v n).length<=n:=by
 unfold one
 split
 · exact F0 n
 · unfold oth;rw[qC];have:=xX v (n - 1);omega
theorem og:∀l,(pk l).length<=l.length:=by
 intro l;generalize o:l.length=n
 induction n using Nat.strongRecOn generalizing l with
 |_ n ih=>
  cases l with
  |nil=>rw[gY];exact qZ
  |cons v l=>
   rw[aZ,qA];have r:=tU v (ru v l+1) (by omega);have s:=xt v l;rw[qC] at o;have p:=ih (l.drop (ru v l)).length (by rw[AF];omega) _ rfl;rw[AF] at p;omega
def vlr(out:List Nat)(r:Rn):Nat:=if r.s=16 then out.getLastD 0 else if 16<r.s then 0 else r.s
def unp(n:Nat)(out:List Nat):List Rn->Int×List Nat
 |[]=>if out.length<n then(7,[]) else(0,out)
 |r::L=>if tms r=0 then(2,[]) else if r.s=16/\out=[] then(7,[]) else if n<out.length+tms r then(7,[]) else unp n (out++List.replicate (tms r) (vlr out r)) L
section
variable {n:Nat} {out:List Nat} {r:Rn} {L:List Rn}
theorem sg(h:tms r=0):unp n out (r::L)=(2,[]):=by rw[unp,A7 h]
theorem jK(h:tms r≠0)(l:r.s=16)(o:out=[]):unp n out (r::L)=(7,[]):=by rw[unp,A0 h,A7 ⟨l,o⟩]
theorem iI(h:tms r≠0)(l:¬(r.s=16/\out=[]))(o:n<out.length+tms r):unp n out (r::L)=(7,[]):=by rw[unp,A0 h,A0 l,A7 o]
theorem ei(h:tms r≠0)(l:¬(r.s=16/\out=[]))(o:¬n<out.length+tms r):unp n out (r::L)=unp n (out++List.replicate (tms r) (vlr out r)) L:=by rw[unp,A0 h,A0 l,A0 o]
theorem ny(h:out.length<n):unp n out []=(7,[]):=by rw[unp,A7 h]
theorem iK(h:¬out.length<n):unp n out []=(0,out):=by rw[unp,A0 h]
end
theorem sf{n v:Nat}{out:List Nat}{L:List Rn}(o:v<16)(h:out.length+1<=n):unp n out (⟨v,0⟩::L)=unp n (out++[v]) L:=by
 have l:=lI o;rw[ei (by rw[l];decide) (λq=>by have:=q.1;simp only at this;omega) (by rw[l];omega),l];have:vlr out ⟨v,0⟩=v:=(by unfold vlr;simp only;rw[A0 (by omega),A0 (by omega)]);rw[this];rfl
theorem iJ{n v:Nat}{L:List Rn}(l:v<16):∀k out,out.length+k<=n->unp n out (List.replicate k ⟨v,0⟩++L)=unp n (out++List.replicate k v) L
 |0,out,_=>by simp
 |k+1,out,h=>by
  rw[BB,Ac,sf l (by omega),iJ l k _ (by rw[qA,Bn];omega),qD,BB];rfl
theorem tj(a b v:Nat):List.replicate a v++List.replicate b v=List.replicate (a+b) v:=Du
theorem Fp{n:Nat}{L:List Rn}:∀k out,out.length+k<=n->unp n out (zrs k++L)=unp n (out++List.replicate k 0) L:=by
 intro k
 induction k using Nat.strongRecOn with
 |_ k ih=>
  intro out h;by_cases o:11<=k
  · have l:tms ⟨18,min k 138 - 11⟩=min k 138:=by rw[sq (by omega)];omega
    rw[bB o,Ac,ei (by rw[l];omega) (λq=>by have:=q.1;simp at this) (by rw[l];omega),l];have:vlr out ⟨18,min k 138 - 11⟩=0:=(by unfold vlr;simp);rw[this,ih (k - min k 138) (by omega) _ (by rw[qA,AP];omega),qD,tj,show min k 138+(k - min k 138)=k by omega]
  · by_cases p:3<=k
    · have l:tms ⟨17,k - 3⟩=k:=by rw[sr (by omega)];omega
      rw[bA o p,CG,ei (by rw[l];omega) (λq=>by have:=q.1;simp at this) (by rw[l];omega),l];have:vlr out ⟨17,k - 3⟩=0:=(by unfold vlr;simp);rw[this]
    · rw[aV p,iJ (by omega) k out h]
theorem wS{n v:Nat}{L:List Rn}(t:v<16):∀k out,out.getLastD 0=v->out≠[]->out.length+k<=n->unp n out (qs v k++L)=unp n (out++List.replicate k v) L:=by
 intro k
 induction k using Nat.strongRecOn with
 |_ k ih=>
  intro out u l h;by_cases p:3<=k
  · have o:tms ⟨16,min k 6 - 3⟩=min k 6:=by rw[su (by omega)];omega
    rw[bf p,Ac,ei (by rw[o];omega) (λq=>l q.2) (by rw[o];omega),o];have:vlr out ⟨16,min k 6 - 3⟩=v:=(by show(if(16:Nat)=16 then out.getLastD 0 else _)=v;rw[A7 rfl,u]);rw[this,ih (k - min k 6) (by omega) _ ?_ (by simp[l]) (by rw[qA,AP];omega),qD,tj,show min k 6+(k - min k 6)=k by omega];obtain⟨m,s⟩:∃m,min k 6=m+1:=⟨min k 6 - 1,by omega⟩
    rw[s,Dv,<-qD];simp
  · rw[bE p,iJ t k out h]
theorem Fq{n v k:Nat}{L:List Rn}{out:List Nat}(l:v<16)(o:1<=k)(h:out.length+k<=n):unp n out (one v k++L)=unp n (out++List.replicate k v) L:=by
 unfold one
 split
 · rename_i e;rw[e];exact Fp k out h
 · unfold oth
   rw[Ac,sf l (by omega),wS l (k - 1) _ (by simp) (by simp) (by rw[qA,Bn];omega),qD];obtain⟨m,rfl⟩:∃m,k=m+1:=⟨k - 1,by omega⟩
   rw[Bo,BB];rfl
theorem zW{n:Nat}{L:List Rn}:∀ (l out:List Nat),(∀v∈l,v<16)->out.length+l.length<=n->unp n out (pk l++L)=unp n (out++l) L:=by
 intro l;generalize t:l.length=m
 induction m using Nat.strongRecOn generalizing l with
 |_ m ih=>
  intro out p h;cases l with
  |nil=>rw[gY,Ap,Az]
  |cons v l=>
   have y:=xt v l;rw[qC] at t;have o:v<16:=p v (by simp);rw[aZ,qD,Fq o (by omega) (by omega),ih (l.drop (ru v l)).length (by rw[AF];omega) _ rfl _ (λx s=>p x (AK _ (BV s))) (by rw[qA,AP,AF];omega),qD];congr 2;have u:l=List.replicate (ru v l) v++l.drop (ru v l):=(by rw[<-lT,Bb]);rw[BB,Ac,<-u]
structure Stp(l s:Nat->Nat)(m:Nat):Prop where
 next:∀i,i<m->l (i+1)=l i+s i
 pos:∀i,i<=m->0<s i
def fdn(l:Nat->Nat)(n:Nat):Nat->Nat
 |0=>0
 |k+1=>if l (k+1)<=n then k+1 else fdn l n k
section
variable {l s:Nat->Nat} {m:Nat}
theorem ve(l:Nat->Nat)(n:Nat):∀k,fdn l n k<=k
 |0=>qR
 |k+1=>by unfold fdn;split;exact qR;exact Nat.le_succ_of_le (ve l n k)
theorem vd{n:Nat}(o:l 0<=n):∀k,l (fdn l n k)<=n
 |0=>o
 |k+1=>by unfold fdn;split;assumption;exact vd o k
theorem oY{n:Nat}:∀k i,fdn l n k<i->i<=k->n<l i
 |0,i,h1,h2=>by unfold fdn at h1;omega
 |k+1,i,h1,h2=>by
  unfold fdn at h1
  split at h1
  · omega
  · by_cases e:i=k+1
    · subst e;omega
    · exact oY k i h1 (by omega)
theorem Stp.mono(h:Stp l s m):∀i j,i<j->j<=m->l i+s i<=l j
 |i,0,hij,_=>by omega
 |i,j+1,hij,hj=>by
  by_cases e:i=j
  · subst e;exact CH (h.next i (by omega)).symm
  · have:=h.mono i j (by omega) (by omega)
    have:=h.next j (by omega)
    omega
theorem Stp.inn(h:Stp l s m){n:Nat}(p:l 0<=n)(o:n<l m+s m):fdn l n m<=m/\l (fdn l n m)<=n/\n<l (fdn l n m)+s (fdn l n m):=by
 refine⟨ve l n m,vd p m,?_⟩;by_cases e:fdn l n m=m
 · rw[e];exact o
 · have t:=ve l n m
   have:=h.next (fdn l n m) (by omega)
   have:=oY (l:=l) (n:=n) m (fdn l n m+1) (by omega) (by omega);omega
theorem Stp.uniq(h:Stp l s m){n i:Nat}(hi:i<=m)(y:l i<=n)(u:n<l i+s i):fdn l n m=i:=by
 have p:l 0<=l i:=by
  by_cases e:i=0
  · subst e;exact qR
  · have:=h.mono 0 i (by omega) hi;omega
 have o:l i+s i<=l m+s m:=by
  by_cases e:i=m
  · subst e;exact qR
  · have:=h.mono i m (by omega) qR;omega
 obtain⟨t,v,x⟩:=h.inn (n:=n) (by omega) (by omega);rcases CE (fdn l n m) i with q|q|q
 · have:=h.mono _ _ q hi;omega
 · exact q
 · have:=h.mono _ _ q t;omega
end
def lls:List Nat:=[3,4,5,6,7,8,9,10,11,13,15,17,19,23,27,31,35,43,51,59,67,83,99,115,131,163,195,227,258]
def ll(i:Nat):Nat:=lls.getD i 0
def lb(i:Nat):Nat:=if i<8\/i=28 then 0 else(i - 4) /4
def ls(i:Nat):Nat:=if i=27 then 31 else 2^lb i
theorem ur:Stp ll ls 28:=⟨by decide,by decide⟩
theorem GP:∀i,i<=28->lb i<=5:=by decide
theorem Lj:∀i,i<=28->ll i<=258:=by decide
theorem Gz{i:Nat}(hi:i<=28):ls i<=2^lb i:=by
 unfold ls;split
 · rename_i h;subst h;decide
 · exact qR
def lsy(n:Nat):Nat:=fdn ll n 28
def lex(n:Nat):Nat:=n - ll (lsy n)
theorem fA{n:Nat}(h:3<=n/\n<=258):lsy n<=28/\ll (lsy n)<=n/\n<ll (lsy n)+ls (lsy n):=ur.inn h.1 (by show n<258+1;omega)
theorem oG{n i:Nat}(hi:i<=28)(p:ll i<=n)(o:n<ll i+ls i):lsy n=i:=ur.uniq hi p o
theorem Es{n:Nat}(h:3<=n/\n<=258):lex n<ls (lsy n):=by
 obtain⟨_,o,p⟩:=fA h;unfold lex;omega
def lof(i e:Nat):Nat:=if i<=28/\e<ls i then ll i+e else 0
theorem yD{n:Nat}(h:3<=n/\n<=258):lof (lsy n) (lex n)=n:=by
 obtain⟨o,p,t⟩:=fA h;unfold lof;rw[A7 ⟨o,Es h⟩];unfold lex;omega
theorem GD{i e:Nat}(h:lof i e≠0):i<=28/\e<ls i/\lof i e=ll i+e/\lsy (lof i e)=i/\lex (lof i e)=e/\3<=lof i e/\lof i e<=258:=by
 by_cases q:i<=28/\e<ls i
 · have o:lof i e=ll i+e:=by unfold lof;rw[A7 q]
   have hs:=oG (n:=ll i+e) q.1 (by omega) (by omega);have p:∀i,i<=28->3<=ll i/\ll i+ls i<=259:=(by decide);have:=p i q.1;refine⟨q.1,q.2,o,by rw[o];exact hs,?_,by omega,by omega⟩;rw[o];unfold lex;rw[hs];omega
 · exact absurd (by unfold lof;rw[A0 q]) h
theorem JE{i e:Nat}(hi:i<=28):(e<2^lb i/\¬(i=27/\e=31))↔e<ls i:=by
 unfold ls;by_cases q:i=27
 · subst q
   rw[A7 rfl,show(2:Nat)^lb 27=32 from rfl];omega
 · rw[A0 q]
   constructor
   · exact λh=>h.1
   · exact λh=>⟨h,λg=>q g.1⟩
def dls:List Nat:=[1,2,3,4,5,7,9,13,17,25,33,49,65,97,129,193,257,385,513,769,1025,1537,2049,3073,4097,6145,8193,12289,16385,24577]
def dl(i:Nat):Nat:=dls.getD i 0
def db(i:Nat):Nat:=if i<4 then 0 else(i - 2) /2
def ds(i:Nat):Nat:=2^db i
theorem vp:Stp dl ds 29:=⟨by decide,by decide⟩
theorem Hv:∀i,i<=29->db i<=13:=by decide
theorem Lt:∀i,i<=29->dl i<=24577:=by decide
def dsy(n:Nat):Nat:=fdn dl n 29
def dex(n:Nat):Nat:=n - dl (dsy n)
theorem dh{n:Nat}(h:1<=n/\n<=32768):dsy n<=29/\dl (dsy n)<=n/\n<dl (dsy n)+ds (dsy n):=vp.inn h.1 (by show n<24577+8192;omega)
theorem kQ{n i:Nat}(hi:i<=29)(p:dl i<=n)(o:n<dl i+ds i):dsy n=i:=vp.uniq hi p o
theorem EE{n:Nat}(h:1<=n/\n<=32768):dex n<ds (dsy n):=by
 obtain⟨_,o,p⟩:=dh h;unfold dex;omega
def dof(i e:Nat):Nat:=if i<=29/\e<ds i then dl i+e else 0
theorem zf{n:Nat}(h:1<=n/\n<=32768):dof (dsy n) (dex n)=n:=by
 obtain⟨o,p,t⟩:=dh h;unfold dof;rw[A7 ⟨o,EE h⟩];unfold dex;omega
theorem Ho{i e:Nat}(h:dof i e≠0):i<=29/\e<ds i/\dof i e=dl i+e/\dsy (dof i e)=i/\dex (dof i e)=e/\1<=dof i e/\dof i e<=32768:=by
 by_cases q:i<=29/\e<ds i
 · have o:dof i e=dl i+e:=by unfold dof;rw[A7 q]
   have hs:=kQ (n:=dl i+e) q.1 (by omega) (by omega);have p:∀i,i<=29->1<=dl i/\dl i+ds i<=32769:=(by decide);have:=p i q.1;refine⟨q.1,q.2,o,by rw[o];exact hs,?_,by omega,by omega⟩;rw[o];unfold dex;rw[hs];omega
 · exact absurd (by unfold dof;rw[A0 q]) h
def hit(l:Nat->Nat)(n r i:Nat):Prop:=l i≠0/\cod l n i=r/2^(15 - l i)
instance (l:Nat->Nat) (n r i:Nat):Decidable (hit l n r i):=inferInstanceAs (Decidable (l i≠0/\cod l n i=r/2^(15 - l i)))
def kH(l:Nat->Nat)(n r:Nat):Nat->Nat
 |0=>0
 |k+1=>kH l n r k+if hit l n r k then 1 else 0
def hs(l:Nat->Nat)(n r s:Nat):Nat->Nat
 |0=>0
 |k+1=>hs l n r s k+if l k=s/\(s≠0/\cod l n k=r/2^(15 - s)) then 1 else 0
def jy(f:Nat->Nat):Nat->Nat
 |0=>0
 |m+1=>jy f m+f m
theorem nJ(f g:Nat->Nat):∀m,jy (λs=>f s+g s) m=jy f m+jy g m
 |0=>rfl
 |m+1=>by simp only[jy];rw[nJ f g m];omega
theorem gQ{f g:Nat->Nat}:∀m,(∀s,s<m->f s=g s)->jy f m=jy g m
 |0,_=>rfl
 |m+1,h=>by simp only[jy];rw[gQ m (λs hs=>h s (by omega)),h m (by omega)]
theorem nI(x:Nat)(P:Nat->Prop)[DecidablePred P]:∀m,jy (λs=>if x=s/\P s then 1 else 0) m=if x<m/\P x then 1 else 0
 |0=>by simp[jy]
 |m+1=>by
  simp only[jy];rw[nI x P m];by_cases e:x=m
  · subst e
    by_cases o:P x<;>simp[o]
  · by_cases o:P x
    · by_cases t:x<m
      · have p:x<m+1:=by omega
        simp[o,t,p,e]
      · have p:¬x<m+1:=by omega
        simp[o,t,p,e]
    · simp[o,e]
theorem oN(l:Nat->Nat)(n r:Nat):∀k,(∀i,i<k->l i<=15)->kH l n r k=jy (λs=>hs l n r s k) 16
 |0,_=>by simp[kH,jy,hs]
 |k+1,h=>by
  have p:l k<16:=(by have:=h k (by omega);omega);have u:kH l n r (k+1)=kH l n r k+if hit l n r k then 1 else 0:=rfl;have v:jy (λs=>hs l n r s (k+1)) 16=jy (λs=>hs l n r s k+if l k=s/\(s≠0/\cod l n k=r/2^(15 - s)) then 1 else 0) 16:=rfl;have t:=nI (l k) (λs=>s≠0/\cod l n k=r/2^(15 - s)) 16;rw[u,v,nJ,<-oN l n r k (λi hi=>h i (by omega)),t];by_cases o:hit l n r k
  · rw[A7 o,A7 (⟨p,o⟩:l k<16/\(l k≠0/\cod l n k=r/2^(15 - l k)))]
  · rw[A0 o,A0 (λq:l k<16/\(l k≠0/\cod l n k=r/2^(15 - l k))=>o q.2)]
theorem JO(l:Nat->Nat)(n r s:Nat)(p:s≠0):∀k,hs l n r s k=if fs (c0 l n) s<=r/2^(15 - s)/\r/2^(15 - s)<fs (c0 l n) s+cnt l s k then 1 else 0
 |0=>by
  have o:cnt l s 0=0:=rfl;rw[A0 (by omega)];rfl
 |k+1=>by
  have t:hs l n r s (k+1)=hs l n r s k+if l k=s/\(s≠0/\cod l n k=r/2^(15 - s)) then 1 else 0:=rfl;have o:cnt l s (k+1)=cnt l s k+if l k=s then 1 else 0:=rfl;rw[t,JO l n r s p k];by_cases e:l k=s
  · have u:cod l n k=fs (c0 l n) s+cnt l s k:=by unfold cod;rw[e,A0 p]
    rw[A7 e] at o;by_cases a:cod l n k=r/2^(15 - s)
    · rw[A7 (show l k=s/\s≠0/\cod l n k=r/2^(15 - s) from⟨e,p,a⟩),A0 (by omega),A7 (by omega)]
    · rw[A0 (show ¬(l k=s/\s≠0/\cod l n k=r/2^(15 - s)) from λq=>a q.2.2)]
      by_cases b:fs (c0 l n) s<=r/2^(15 - s)/\r/2^(15 - s)<fs (c0 l n) s+cnt l s k
      · rw[A7 b,A7 (by omega)]
      · rw[A0 b,A0 (by omega)]
  · rw[A0 e] at o
    rw[A0 (show ¬(l k=s/\s≠0/\cod l n k=r/2^(15 - s)) from λq=>e q.1),show cnt l s (k+1)=cnt l s k from o];rfl
theorem uO(l:Nat->Nat)(n r:Nat):∀k,hs l n r 0 k=0
 |0=>rfl
 |k+1=>by
  have o:hs l n r 0 (k+1)=hs l n r 0 k+if l k=0/\(0≠0/\cod l n k=r/2^(15 - 0)) then 1 else 0:=rfl;rw[o,uO l n r k,A0 (λq=>q.2.1 rfl)]
theorem Lo(l:Nat->Nat)(n r s:Nat)(h:s<=15):hs l n r s n=if aw (c0 l n) s<=r/\r<aw (c0 l n) (s+1) then 1 else 0:=by
 by_cases o:s=0
 · subst o
   rw[uO];have:aw (c0 l n) (0+1)=0:=(by simp[aw,c0]);rw[this,A0 (by omega)]
 · rw[JO l n r s o]
   have u:cnt l s n=c0 l n s:=(by unfold c0;rw[A0 o]);have p:fs (c0 l n) s<=r/2^(15 - s)↔aw (c0 l n) s<=r:=by
    rw[Nat.le_div_iff_mul_le (AA _),GZ _ s h]
   have t:r/2^(15 - s)<fs (c0 l n) s+c0 l n s↔r<aw (c0 l n) (s+1):=by
    rw[CZ (AA _),Ey _ s h]
   rw[u];simp only[p,t]
theorem LB(c:Nat->Nat)(r:Nat):∀m,jy (λs=>if aw c s<=r/\r<aw c (s+1) then 1 else 0) m=if r<aw c m then 1 else 0
 |0=>by simp[jy,aw]
 |m+1=>by
  simp only[jy];rw[LB c r m];have:=wD c (show m<=m+1 by omega);by_cases a:r<aw c m
  · rw[A7 a,A0 (by omega),A7 (by omega)]
  · by_cases b:r<aw c (m+1)
    · rw[A0 a,A7 ⟨by omega,b⟩,A7 b]
    · rw[A0 a,A0 (λq=>b q.2),A0 b]
theorem oO{l:Nat->Nat}{n:Nat}(r:Nat)(o:May l n):kH l n r n=if r<aa l n then 1 else 0:=by
 rw[oN l n r n o.2,gQ 16 (λs p=>Lo l n r s (by omega)),LB,aE l n o.2]
theorem yJ{l:Nat->Nat}{n:Nat}(h:kind l n=2):aa l n=32768:=by
 have o:=eQ (show kind l n≠5 by omega);rw[bj o] at h;by_cases a:aa l n=0
 · rw[A7 a] at h;omega
 · rw[A0 a] at h
   by_cases b:32768<aa l n
   · rw[A7 b] at h;omega
   · rw[A0 b] at h
     by_cases c:aa l n=32768
     · exact c
     · rw[A0 c] at h;split at h<;>omega
theorem uA{l:Nat->Nat}{n:Nat}(h:kind l n=0):aa l n=0:=by
 have o:=eQ (show kind l n≠5 by omega);rw[bj o] at h;by_cases a:aa l n=0
 · exact a
 · rw[A0 a] at h
   by_cases b:32768<aa l n
   · rw[A7 b] at h;omega
   · rw[A0 b] at h
     by_cases c:aa l n=32768
     · rw[A7 c] at h;omega
     · rw[A0 c] at h;split at h<;>omega
end M
namespace Z
open Go
def dH:Nat:=4294967296
def nums(s:ByteArray):List Nat:=s.data.toList.map (·.toNat)
theorem zX(a:Nat)(o:a<dH):(BitVec.ofInt 32 (a:Int)).toNat=a:=by
 unfold dH at o;rw[BitVec.ofInt_natCast,BitVec.toNat_ofNat];exact Ar (by omega)
theorem IJ(n:Int):IntKind.u32.wrap n=n%4294967296:=by simp[IntKind.wrap,IntKind.bits,IntKind.signed]
theorem Lx(a b:Nat)(o:a<dH)(p:b<dH):bits .and .u32 (a:Int) (b:Int)=((a&&&b:Nat):Int):=by
 have t:a&&&b<=a:=Nat.and_le_left;show IntKind.u32.wrap ((BitVec.ofInt 32 (a:Int)&&&BitVec.ofInt 32 (b:Int)).toNat:Int)=_
 rw[BitVec.toNat_and,zX a o,zX b p,IJ];unfold dH at o;omega
theorem fq(s:ByteArray):(nums s).length=s.size:=by
 unfold nums;rw[Ah,As];rfl
def gh(p:Nat×Nat)(b:Nat):Nat×Nat:=((p.1+b)%65521,(p.2+(p.1+b)%65521)%65521)
def adp(p:Nat×Nat)(l:List Nat):Nat×Nat:=l.foldl gh p
def lo(a:Nat):Nat:=a%65536%65521
def hi(a:Nat):Nat:=a/65536%65521
def adl(a:Nat)(s:ByteArray):Nat:=(adp (lo a,hi a) (nums s)).2*65536+(adp (lo a,hi a) (nums s)).1
theorem JF(a:Nat):lo a<65521:=AR _ (by decide)
theorem JP(a:Nat):hi a<65521:=AR _ (by decide)
theorem rG(p:Nat×Nat)(l m:List Nat):adp p (l++m)=adp (adp p l) m:=List.foldl_append
theorem lr(p:Nat×Nat)(b:Nat):(gh p b).1<65521/\(gh p b).2<65521:=⟨AR _ (by decide),AR _ (by decide)⟩
theorem wH:∀ (l:List Nat) (p:Nat×Nat),p.1<65521->p.2<65521->(adp p l).1<65521/\(adp p l).2<65521
 |[],p,h1,h2=>⟨h1,h2⟩
 |b::r,p,_,_=>wH r (gh p b) (lr p b).1 (lr p b).2
theorem pJ(a:Nat)(s:ByteArray):adl a s<dH:=by
 have h:=wH (nums s) (lo a,hi a) (JF a) (JP a);unfold adl dH;omega
theorem tV(s:ByteArray)(k:Nat)(h:k<s.size):(nums s).take (k+1)=(nums s).take k++[s[k].toNat]:=by
 have o:k<(nums s).length:=(by rw[fq];exact h);have e:∀g,(nums s)[k]'g=s[k].toNat:=by
  intro g;simp only[nums,List.getElem_map];rfl
 rw[Bd,qE o,e];rfl
theorem xZ(s:ByteArray):(nums s).take s.size=nums s:=Aj (by rw[fq];exact qR)
theorem zP(p:Nat×Nat)(s:ByteArray)(k b:Nat)(h:k<s.size)(o:s[k].toNat=b):adp p ((nums s).take (k+1))=gh (adp p ((nums s).take k)) b:=by
 rw[tV s k h,rG,o];rfl
theorem I5(s:ByteArray)(k:Nat)(h:k<s.size):s[k].toNat<256:=UInt8.toNat_lt _
end Z
namespace Z
open Go Go.RowKit
theorem qO(a:Nat)(w:World)(h:a<dH):
 Calls prog 118 #[.int .u32 a] w λe w'=>e=.returned (.tuple #[.int .u64 (lo a),.int .u64 (hi a)])/\w=w':=by
 have o:bits .and .u32 (a:Int) 65535=((a%65536:Nat):Int):=by
  have:=Lx a 65535 h (by decide);rw[show(65535:Nat)=2^16 - 1 from rfl,Dw] at this;exact this
 have h':a<=4294967295:=(by unfold dH at h;omega);clear h;go_enter func118,ntmps118;go_wp2;go_ret2;exact⟨rfl,rfl⟩
theorem whole_any(l h:Nat)(w:World)(u:l<65521)(o:h<65521):
 Calls prog 119 #[.int .u64 l,.int .u64 h] w λe w'=>e=.returned (.int .u32 ((h*65536+l:Nat):Int))/\w=w':=by
 have p:bits .or .u64 ((h:Int)*65536) (l:Int)=((h*65536+l:Nat):Int):=by
  have:=bits_or_u64_nat (h*65536) l (by omega) (by omega)
  rw[show h*65536|||l=h*65536+l by
   have:=D0 (i:=16) (b:=l) (show l<2^16 by omega) h;rw[Ao];exact this.symm] at this
  exact this
 have t:IntKind.u64.wrap ((h:Int)*65536)=(h:Int)*65536:=(by rw[IntKind.wrap_u64];omega);go_enter func119,ntmps119;go_wp2;go_ret;exact⟨congrArg (λz=>Ending.returned (.int .u32 z)) (by first|rfl|(simp;omega)),rfl⟩
theorem yl(a:Nat)(s:ByteArray)(w:World)(h:a<dH)(hs:s.size<=maxLen):
 Calls prog 83 #[.int .u32 a,.string s] w λe w'=>e=.returned (.int .u32 (adl a s))/\w=w':=by
 have N:s.size<=9223372036854775807:=(by unfold maxLen at hs;omega);have J:=qH (show adl a s=(adp (lo a,hi a) (nums s)).2*65536+(adp (lo a,hi a) (nums s)).1 from rfl);go_enter func83,ntmps83;go_wp2_with (go_at_call 118;refine(qO a _ h).mono ?_;rintro e w' ⟨rfl,rfl⟩);have t:=JF a;have v:=JP a;obtain⟨p,B⟩:∃p,p=(lo a,hi a):=⟨_,rfl⟩
 rw[<-B] at J;have F:lo a=p.1:=(by rw[B]);have H:hi a=p.2:=(by rw[B]);rw[F,H];rw[F] at t;rw[H] at v;clear B F H
 go_loop [5,6,15] (λx y i=> ∃k:Nat,k<=s.size/\i=.int .i64 k/\x=.int .u64 (adp p ((nums s).take k)).1/\y=.int .u64 (adp p ((nums s).take k)).2) (λ_ _ i=>s.size - (intOf i).toNat)
 case atStart=>exact⟨0,qZ,rfl,rfl,rfl⟩
 case round=>
  obtain⟨k,R,rfl,rfl,rfl⟩:=hrel;obtain⟨I,E⟩:=wH ((nums s).take k) p t v;by_cases z:k<s.size
  · have M:=λb C=>zP p s k b z C
    obtain⟨b,C⟩:∃b,s[k].toNat=b:=⟨_,rfl⟩
    have P:b<256:=(by rw[<-C];exact I5 s k z);have u:=qH (M b C);obtain⟨x,D⟩:∃x,(adp p ((nums s).take k)).1=x:=⟨_,rfl⟩
    obtain⟨y,G⟩:∃y,(adp p ((nums s).take k)).2=y:=⟨_,rfl⟩
    rw[D] at I ⊢;rw[G] at E ⊢;obtain⟨K,O⟩:=qh2 D G;clear M D G;go_wp2_with fail
    go_round
    case rel=>exact⟨k+1,by omega,by go_num,congrArg (Value.int .u64) (by rw[u.o];simp only[gh,K.o];omega),congrArg (Value.int .u64) (by rw[u.o];simp only[gh,K.o,O.o];omega)⟩
    case measure=>simp[intOf];omega
  · obtain rfl:k=s.size:=by omega
    rw[xZ] at I E ⊢;go_wp2_with (go_at_call 119;refine(whole_any _ _ _ I E).mono ?_;rintro e w' ⟨rfl,rfl⟩);go_ret;exact⟨by rw[J.o];rfl,rfl⟩
theorem gd(s:ByteArray)(w:World)(hs:s.size<=maxLen):
 Calls prog 40 #[.string s] w λe w'=>e=.returned (.int .u32 (adl 1 s))/\w=w':=by
 go_enter func40,ntmps40;go_wp2_with (go_at_call 83;refine(yl 1 s _ (by decide) hs).mono ?_;rintro e w' ⟨rfl,rfl⟩);go_ret;exact⟨rfl,rfl⟩
