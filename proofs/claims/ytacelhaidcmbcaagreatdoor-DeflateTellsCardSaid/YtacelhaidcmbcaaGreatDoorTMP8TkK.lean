/- Texts of one place, one behind the other: P8TkK, P8MathG, P8RfA, P8RfB, P8RfC, P8RfD, P8RfE, P8RfF, P8RfG, P8RfH. -/
import Derived.Test.YtacelhaidcmbcaaGreatDoorTMMathT
import Derived.Test.YtacelhaidcmbcaaGreatDoorTMRns
import Derived.Test.YtacelhaidcmbcaaGreatDoorChecked
import Derived.KernelRfl
import Derived.Deep.OwnRows
import Derived.WalkKit
import Derived.Deep.Slices
import Derived.Deep.Fields
import Derived.SizedLaws
import Derived.Laws.IdiomStrings
import Derived.Lib.ConvBytes
import Derived.ArgAppend
import Derived.Laws.OwnMore
import Derived.Deep.AppendLies
import Derived.RangeFuncOwn
import Derived.Lib.Hide
import Derived.Outline
import Derived.Deep.RegionLaw
import Derived.RegionTactic
import Derived.BigRegion
import Derived.BigQuiet
import Derived.Deep.QuietTactic
import Derived.ChangeAlike
import Derived.Laws.Cells
import Derived.WalkSpells
import Derived.WalkMore
import Derived.IntWalk
import Derived.Laws.StructEq
import Derived.Test.YtacelhaidcmbcaaGreatDoorTMP8Cpy
import Derived.OwnWalk
import Derived.Maps.AppendAt
set_option maxHeartbeats 8000000
set_option maxRecDepth 1000000
set_option linter.unusedVariables false
set_option linter.unusedSimpArgs false
namespace Go.Proofs.YtacelhaidcmbcaaGreatDoor.V.Px
open Go Go.RowKit M
theorem _root_.Go.Proofs.YtacelhaidcmbcaaGreatDoor.V.Tk.ok_of{l n d:Int}(h1:0≤l∧l≤255)(h2:0≤n∧n≤1000000)(h3:0≤d∧d≤1000000):Tk.ok ⟨l,n,d⟩:=⟨h1,⟨by show _≤n;omega,by show n≤_;omega⟩,⟨by show _≤d;omega,by show d≤_;omega⟩⟩
def clt:List Tk→List Value
 |[]=> []
 |t::l=> .int .u8 t.l::.int .i64 t.n::.int .i64 t.d::clt l
theorem z4j:∀l,(clt l).length=l.length*3
 |[]=>rfl
 |t::l=>by simp only[clt,qC];rw[z4j l];omega
theorem zf7:∀ (l:List Tk) (i:Nat) (t:Tk),l[i]? =some t→(clt l)[i*3]? =some (.int .u8 t.l)∧(clt l)[i*3+1]? =some (.int .i64 t.n)∧(clt l)[i*3+2]? =some (.int .i64 t.d)
 |[],i,t,h=>by simp at h
 |a::l,0,t,h=>by simp at h;subst h;simp[clt]
 |a::l,i+1,t,h=>by
  rw[List.getElem?_cons_succ] at h;obtain⟨h1,h2,h3⟩:=zf7 l i t h;simp only[clt];refine⟨?_,?_,?_⟩
  · rw[show(i+1)*3=i*3+1+1+1 by omega];simpa using h1
  · rw[show(i+1)*3+1=i*3+1+1+1+1 by omega];simpa using h2
  · rw[show(i+1)*3+2=i*3+2+1+1+1 by omega];simpa using h3
theorem IsTks.of_own{w:World}{B n:Nat}{v:Value}{L:List Tk}(h:w.ownsRow B 64 3 v n (clt L))(hok:∀c∈L,c.ok)(hm:n≤maxLen):∃A c,v=.slice A n c∧IsTks w A n L:=by
 have hl:L.length=n:=by have:=h.1;rw[z4j] at this;omega
 have hc:=fun g (hg:v.ownBlock=some g)=>h.cells hg
 rcases h.2 with⟨rfl,rfl⟩|⟨g,cap,cur,rfl,_,hh,_⟩
 · exact⟨none,0,rfl,hl,hm,hok,.inl rfl⟩
 · refine⟨_,cap,rfl,hl,hm,hok,.inr ⟨g,0,rfl,(qW.1 hh).1,fun i t ht=> ?_⟩⟩
   obtain⟨h1,h2,h3⟩:=zf7 L i t ht;have k:=fun j u hu=>hc g rfl j u hu
   simp only[cadd_at] at k;exact⟨k _ _ h1,k _ _ h2,k _ _ h3⟩
end Go.Proofs.YtacelhaidcmbcaaGreatDoor.V.Px
namespace Go.Proofs.YtacelhaidcmbcaaGreatDoor.V.Px
structure Lv where
 d:Nat
 n:Nat
 z:Nat
def mt(s:ByteArray)(r:Lv)(k:Nat)(over:Int):Nat×Nat:=fnd s k r.n over (nr s (List.range k) k r.d) (0,0)
structure Mt(s:ByteArray)(k:Nat)(m:Nat×Nat):Prop where
 len:3≤m.1∧m.1≤258
 fits:k+m.1≤s.size
 dist:1≤m.2∧m.2≤32768
 back:m.2≤k
 same:∀i,i<m.1→byt s (k - m.2+i)=byt s (k+i)
theorem mt_is{s:ByteArray}{r:Lv}{k:Nat}{over:Int}(h:(mt s r k over).1≠0):Mt s k (mt s r k over)∧over<((mt s r k over).1:Int):=by
 unfold mt at h ⊢;rcases zbx s k r.n over (nr s (List.range k) k r.d) (0,0) with e|⟨p,hp,e,ho⟩
 · rw[e] at h;exact absurd rfl h
 · have hc:=zaU hp
   obtain⟨_,h1,h2,h3,_⟩:=z5j hc;have h4:=z8k hc;have h5:=zbb s p k;have h6:=(z5X s p k).same;rw[e];refine⟨⟨⟨h4,h5.1⟩,by simp only;omega,⟨by simp only;omega,by simp only;omega⟩,by simp only;omega,fun i hi=> ?_⟩,ho⟩;simp only at hi ⊢;rw[show k - (k - p)+i=p+i by omega];exact h6 i hi
def lit(s:ByteArray)(k:Nat):Tk:=⟨byt s k,0,0⟩
def mtk(m:Nat×Nat):Tk:=⟨0,m.1,m.2⟩
def G(s:ByteArray)(r:Lv)(k:Nat)(m:Nat×Nat):List Tk:=
 if hk:k<s.size then
  if hm:m.1=0 then
   if hq:(mt s r k 2).1=0 then lit s k::G s r (k+1) (0,0) else G s r k (mt s r k 2)
  else if m.1<r.z∧k+1<s.size then
   if(mt s r (k+1) m.1).1=0 then mtk m::G s r (k+m.1) (0,0) else lit s k::G s r (k+1) (mt s r (k+1) m.1)
  else mtk m::G s r (k+m.1) (0,0)
 else[]
termination_by (s.size - k,if m.1=0 then 1 else 0)
decreasing_by
 · apply Prod.Lex.left;omega
 · rw[if_pos hm,if_neg hq];apply Prod.Lex.right;omega
 · apply Prod.Lex.left;omega
 · apply Prod.Lex.left;omega
 · apply Prod.Lex.left;omega
section
variable {s:ByteArray} {r:Lv} {k:Nat} {m:Nat×Nat}
theorem G_end(h:s.size≤k):G s r k m=[]:=by rw[G,dif_neg (by omega)]
theorem G_lit(h:k<s.size)(hm:m.1=0)(hq:(mt s r k 2).1=0):G s r k m=lit s k::G s r (k+1) (0,0):=by rw[G,dif_pos h,dif_pos hm,dif_pos hq]
theorem G_look(h:k<s.size)(hm:m.1=0)(hq:(mt s r k 2).1≠0):G s r k m=G s r k (mt s r k 2):=by rw[G,dif_pos h,dif_pos hm,dif_neg hq]
theorem G_lazy(h:k<s.size)(hm:m.1≠0)(hz:m.1<r.z∧k+1<s.size)(hq:(mt s r (k+1) m.1).1≠0):G s r k m=lit s k::G s r (k+1) (mt s r (k+1) m.1):=by
 rw[G,dif_pos h,dif_neg hm,if_pos hz,if_neg hq]
theorem G_stay(h:k<s.size)(hm:m.1≠0)(hz:m.1<r.z∧k+1<s.size)(hq:(mt s r (k+1) m.1).1=0):G s r k m=mtk m::G s r (k+m.1) (0,0):=by
 rw[G,dif_pos h,dif_neg hm,if_pos hz,if_pos hq]
theorem G_take(h:k<s.size)(hm:m.1≠0)(hz:¬(m.1<r.z∧k+1<s.size)):G s r k m=mtk m::G s r (k+m.1) (0,0):=by
 rw[G,dif_pos h,dif_neg hm,if_neg hz]
end
theorem lit_byte(s:ByteArray)(k:Nat):isB (lit s k)=true:=z0v.2 ⟨rfl,rfl⟩
theorem mtk_match{s:ByteArray}{k:Nat}{m:Nat×Nat}(h:Mt s k m):isM (mtk m)=true:=by
 have:=h.len;have:=h.dist;exact z0G.2 ⟨rfl,by show(3:Int)≤(m.1:Int);omega,by show(m.1:Int)≤258;omega,by show(1:Int)≤(m.2:Int);omega,by show(m.2:Int)≤32768;omega⟩
theorem G_may(s:ByteArray)(r:Lv)(k:Nat)(m:Nat×Nat)(hm:m.1≠0→Mt s k m):∀t∈G s r k m,may t=true∧(0≤t.l∧t.l≤255)∧(0≤t.n∧t.n≤258)∧(0≤t.d∧t.d≤32768):=by
 have hlit:∀k,may (lit s k)=true∧(0≤(lit s k).l∧(lit s k).l≤255)∧(0≤(lit s k).n∧(lit s k).n≤258)∧(0≤(lit s k).d∧(lit s k).d≤32768):=fun k=>by
  have:=z1C s k;refine⟨by unfold may;rw[lit_byte];rfl,⟨?_,?_⟩,⟨Int.le_refl 0,by show(0:Int)≤258;decide⟩,⟨Int.le_refl 0,by show(0:Int)≤32768;decide⟩⟩
  · show(0:Int)≤(byt s k:Int);omega
  · show(byt s k:Int)≤255;omega
 have hmk:∀ {k m},Mt s k m→may (mtk m)=true∧(0≤(mtk m).l∧(mtk m).l≤255)∧(0≤(mtk m).n∧(mtk m).n≤258)∧(0≤(mtk m).d∧(mtk m).d≤32768):=fun {k m} h=>by
  have h1:=h.len;have h2:=h.dist;refine⟨by unfold may;rw[mtk_match h,Bool.or_true],⟨Int.le_refl 0,by show(0:Int)≤255;decide⟩,⟨?_,?_⟩,⟨?_,?_⟩⟩
  · show(0:Int)≤(m.1:Int);omega
  · show(m.1:Int)≤258;omega
  · show(0:Int)≤(m.2:Int);omega
  · show(m.2:Int)≤32768;omega
 induction k,m using G.induct s r with
 |case1 k m hlt hz hq ih=>
  rw[G_lit hlt hz hq];intro t ht;rcases List.mem_cons.1 ht with e|e
  · rw[e];exact hlit k
  · exact ih (fun q=>absurd rfl q) t e
 |case2 k m hlt hz hq ih=>
  rw[G_look hlt hz hq];exact ih (fun q=>(mt_is q).1)
 |case3 k m hlt hz hc hq ih=>
  rw[G_stay hlt hz hc hq];intro t ht;rcases List.mem_cons.1 ht with e|e
  · rw[e];exact hmk (hm hz)
  · exact ih (fun q=>absurd rfl q) t e
 |case4 k m hlt hz hc hq ih=>
  rw[G_lazy hlt hz hc hq];intro t ht;rcases List.mem_cons.1 ht with e|e
  · rw[e];exact hlit k
  · exact ih (fun q=>(mt_is q).1) t e
 |case5 k m hlt hz hc ih=>
  rw[G_take hlt hz hc];intro t ht;rcases List.mem_cons.1 ht with e|e
  · rw[e];exact hmk (hm hz)
  · exact ih (fun q=>absurd rfl q) t e
 |case6 k m hlt=>
  rw[G_end (by omega)];intro t ht;cases ht
theorem G_len(s:ByteArray)(r:Lv)(k:Nat)(m:Nat×Nat)(hm:m.1≠0→Mt s k m):(G s r k m).length≤s.size - k:=by
 induction k,m using G.induct s r with
 |case1 k m hlt hz hq ih=>rw[G_lit hlt hz hq,qC];have:=ih (fun q=>absurd rfl q);omega
 |case2 k m hlt hz hq ih=>rw[G_look hlt hz hq];exact ih (fun q=>(mt_is q).1)
 |case3 k m hlt hz hc hq ih=>rw[G_stay hlt hz hc hq,qC];have:=ih (fun q=>absurd rfl q);omega
 |case4 k m hlt hz hc hq ih=>rw[G_lazy hlt hz hc hq,qC];have:=ih (fun q=>(mt_is q).1);omega
 |case5 k m hlt hz hc ih=>rw[G_take hlt hz hc,qC];have:=ih (fun q=>absurd rfl q);omega
 |case6 k m hlt=>rw[G_end (by omega)];exact qZ
end Go.Proofs.YtacelhaidcmbcaaGreatDoor.V.Px
namespace Go.Proofs.YtacelhaidcmbcaaGreatDoor.V.Px
open Go.Lib (hid)
namespace Q
open Go Go.RowKit M
theorem new_at(w:World)(o:Obj):(w.alloc o).heap[w.heap.size]? =some o:=heap_alloc_new w o
theorem old_at{w:World}{i:Nat}{x:Obj}(o:Obj)(h:w.heap[i]? =some x):(w.alloc o).heap[i]? =some x:=(Below.heap_alloc w o i (qW.1 h).1).trans h
theorem cadd_at(b o j:Nat):(⟨b,o,none⟩:Addr).add j=⟨b,o+j,none⟩:=by
 unfold Addr.add
 split
 · rename_i h;subst h;rfl
 · rfl
theorem info_of{e:TypeId}{z:Value}{size bytes:Nat}(hi:(Tryz.prog.info? e).map (fun i=>(i.zero,i.size,i.bytes))=some (some z,size,bytes)):∃i,Tryz.prog.info? e=some i∧i.zero=some z∧i.size=size∧i.bytes=bytes:=by
 cases hq: Tryz.prog.info? e with
 |none=>rw[hq] at hi;cases hi
 |some i=>rw[hq] at hi;simp at hi;exact⟨i,rfl,hi.1,hi.2.1,hi.2.2⟩
def B3(w:World)(T:TypeId)(g:Nat)(x y z:Value):Prop:=w.heap[g]? =some (.cells #[x,y,z] T (0,0))
section
variable {w w':World} {T:TypeId} {g:Nat} {x y z:Value}
theorem B3.at0(h:B3 w T g x y z):w.cell? ⟨g,0,none⟩=some x:=by unfold B3 at h;simp[World.cell?,h]
theorem B3.at1(h:B3 w T g x y z):w.cell? ⟨g,1,none⟩=some y:=by unfold B3 at h;simp[World.cell?,h]
theorem B3.at2(h:B3 w T g x y z):w.cell? ⟨g,2,none⟩=some z:=by unfold B3 at h;simp[World.cell?,h]
theorem B3.free(h:B3 w T g x y z)(i:Nat):w.frozen? ⟨g,i,none⟩=false:=by unfold B3 at h;simp[World.frozen?,h]
theorem B3.lt(h:B3 w T g x y z):g<w.heap.size:=(qW.1 h).1
theorem B3.of_block(h:B3 w T g x y z)(e:w'.heap[g]? =w.heap[g]?):B3 w' T g x y z:=e.trans h
theorem B3.set2(h:B3 w T g x y z)(v:Value):B3 (w.setCell ⟨g,2,none⟩ v) T g x y v:=by
 unfold B3 at h ⊢;rw[setCell_eq_setRow w g 2 #[x,y,z] T (0,0) v h];exact setRow_heap w g #[x,y,z] #[x,y,v] T (0,0) h
end
def B2(w:World)(T:TypeId)(g:Nat)(x y:Value):Prop:=w.heap[g]? =some (.cells #[x,y] T (0,0))
section
variable {w w':World} {T:TypeId} {g:Nat} {x y:Value}
theorem B2.at0(h:B2 w T g x y):w.cell? ⟨g,0,none⟩=some x:=by unfold B2 at h;simp[World.cell?,h]
theorem B2.at1(h:B2 w T g x y):w.cell? ⟨g,1,none⟩=some y:=by unfold B2 at h;simp[World.cell?,h]
theorem B2.free(h:B2 w T g x y)(i:Nat):w.frozen? ⟨g,i,none⟩=false:=by unfold B2 at h;simp[World.frozen?,h]
theorem B2.lt(h:B2 w T g x y):g<w.heap.size:=(qW.1 h).1
theorem B2.of_block(h:B2 w T g x y)(e:w'.heap[g]? =w.heap[g]?):B2 w' T g x y:=e.trans h
theorem B2.set(h:B2 w T g x y)(u v:Value):B2 ((w.setCell ⟨g,0,none⟩ u).setCell ⟨g,1,none⟩ v) T g u v:=by
 unfold B2 at h ⊢
 have h1:(w.setCell ⟨g,0,none⟩ u).heap[g]? =some (.cells #[u,y] T (0,0)):=by
  rw[setCell_eq_setRow w g 0 #[x,y] T (0,0) u h];exact setRow_heap w g #[x,y] #[u,y] T (0,0) h
 rw[setCell_eq_setRow _ g 1 #[u,y] T (0,0) v h1];exact setRow_heap _ g #[u,y] #[u,v] T (0,0) h1
end
structure Rf(w:World)(B F b:Nat)(s:ByteArray)(k:Nat):Prop where
 fd:B3 w 114 F (.string s) (.slice (some ⟨b,0,none⟩) s.size s.size) (.int .i64 ((k:Int) - 1))
 row:w.rowIs b 4 s.size (fun j=> .bool (decide (j<k)))
 ne:F≠b
 hF:B≤F
 hb:B≤b
 le:k≤s.size
 len:s.size≤2000000
section
variable {w w':World} {B F b k:Nat} {s:ByteArray}
theorem Rf.of_blocks(h:Rf w B F b s k)(e1:w'.heap[F]? =w.heap[F]?)(e2:w'.heap[b]? =w.heap[b]?):Rf w' B F b s k:=
 ⟨h.fd.of_block e1,World.rowIs.of_block h.row e2,h.ne,h.hF,h.hb,h.le,h.len⟩
theorem Rf.below(h:Rf w B F b s k)(hb:Below w.heap.size w w'):Rf w' B F b s k:=h.of_blocks (hb.block F h.fd.lt) (hb.block b (World.rowIs.lt h.row))
theorem Rf.base(h:Rf w B F b s k){B':Nat}(hB:B'≤B):Rf w B' F b s k:=⟨h.fd,h.row,h.ne,qK hB h.hF,qK hB h.hb,h.le,h.len⟩
end
theorem zef:(Tryz.prog.info? 4).map (fun i=>(i.zero,i.size,i.bytes))=some (some (.bool false),1,1):=by kernel_rfl
theorem made(w:World)(n:Nat)(hn:n≤2000000):(Instr.makeSlice 112 (.int .i64 (n:Int)) (.int .i64 (n:Int))).run Tryz.prog w=.ok (.slice (some ⟨w.heap.size,0,none⟩) n n) (w.alloc (.cells (madeCells #[.bool false] n) 4)):=by
 obtain⟨i,h1,h2,h3,h4⟩:=info_of zef;exact run_make_row 112 4 i _ Tryz.underlying112 h1 h2 h3 rfl .i64 .i64 n (by rw[h4];omega) (by omega) w
theorem zd6(s:ByteArray)(w:World)(hs:s.size≤2000000):
 Calls Tryz.prog 25 #[.string s] w fun e w'=>e=.returned (.pointer (some ⟨w.heap.size+1,0,none⟩))∧Rf w' w.heap.size (w.heap.size+1) w.heap.size s 0∧Below w.heap.size w w':=by
 obtain⟨n,hn⟩:∃n,s.size=n:=⟨_,rfl⟩
 have hn1:(s.size:Int)=(n:Int):=by rw[hn]
 have hn2:n≤2000000:=by omega
 have hmk:=made w n hn2;have HN:=hid hn;clear hn hs;go_enter Tryz.func25,Tryz.ntmps25;go_wp2_with fail;go_ret;have hn:=HN.out;refine⟨rfl,⟨?_,?_,by omega,by omega,qR,qZ,by omega⟩,(qL).alloc (by simp) _⟩
 · have:=new_at (w.alloc (.cells (madeCells #[.bool false] n) 4)) (.cells #[.string s,.slice (some ⟨w.heap.size,0,none⟩) n n,.int .i64 (-1)] 114)
   rw[World.size_alloc] at this;rw[hn];exact this
 · rw[hn]
   exact World.rowIs.alloc ((World.rowIs_made w (.bool false) n 4).congr (fun i hi=>by rw[qF (by omega)])) _
theorem zd3{w:World}{B F b k:Nat}{s:ByteArray}(h:Rf w B F b s k)(hk:k<s.size):
 Calls Tryz.prog 48 #[.pointer (some ⟨F,0,none⟩),.int .i64 k] w fun e w'=>e=.returned (.int .i64 0)∧Rf w' B F b s (k+1)∧Kept (fun j=>j=F∨j=b) w w':=by
 have c0:=h.fd.at0;have c1:=h.fd.at1;have c2:=h.fd.at2;have f2:=h.fd.free 2;have hlen:=h.len;have hck:=World.rowIs.cell h.row (i:=k) hk;have hfk:=World.rowIs.frozen h.row k;obtain⟨n,hn⟩:∃n,s.size=n:=⟨_,rfl⟩
 have hn1:(s.size:Int)=(n:Int):=by rw[hn]
 rw[hn] at c1 hk;have hk9:k<9223372036854775807:=by omega
 have d1:decide ((n:Int)≤(k:Int))=false:=qF (by omega);have d1':decide (n≤k)=false:=qF (by omega);have d2:decide ((k:Int)≤(k:Int) - 1)=false:=qF (by omega);have hne:=h.ne;have hne':b≠F:=fun e=>h.ne e.symm
 have HH:=hid h;have HN:=hid hn;clear h hn;go_enter Tryz.func48,Tryz.ntmps48;go_wp2_with fail;go_ret;have hbF:b≠F:=hne';refine⟨rfl,⟨?_,?_,hne,HH.out.hF,HH.out.hb,by rw[HN.out];omega,HH.out.len⟩,((Kept.refl _ w).setCell ⟨b,k,none⟩ (.inl (.inr rfl)) _).setCell ⟨F,2,none⟩ (.inl (.inl rfl)) _⟩
 · have h1:B3 (w.setCell ⟨b,k,none⟩ (.bool true)) 114 F (.string s) (.slice (some ⟨b,0,none⟩) s.size s.size) (.int .i64 ((k:Int) - 1)):=HH.out.fd.of_block (Below.heap_setCell _ _ _ _ (by show F≠b;exact hne))
   have:=h1.set2 (.int .i64 (k:Int));rw[show((k+1:Nat):Int) - 1=(k:Int) by omega];exact this
 · exact World.rowIs.setOther ((World.rowIs.set HH.out.row k (.bool true)).congr (fun j hj=>by
    by_cases c:j=k
    · subst c;rw[if_pos rfl,q9T (by omega)]
    · rw[if_neg c];congr 1;rw[decide_eq_decide];omega)) (by show b≠F;exact hne') _
end Q
end Go.Proofs.YtacelhaidcmbcaaGreatDoor.V.Px
namespace Go.Proofs.YtacelhaidcmbcaaGreatDoor.V.Px
open Go.Lib (hid)
namespace Q
open Go Go.RowKit M
theorem zag{w:World}{B F b q:Nat}{s:ByteArray}(H:Rf w B F b s q)(p k:Nat)(hp:p<k)(hk:k≤s.size):
 Calls Tryz.prog 76 #[.pointer (some ⟨F,0,none⟩),.int .i64 p,.int .i64 k] w fun e w'=>e=.returned (.int .i64 (lng s p k))∧∃n,w'=w.drewN n:=by
 have h0:=H.fd.at0;have hl:=H.len;obtain⟨ms,hms⟩:∃ms,most s k=ms:=⟨_,rfl⟩
 have hm2:ms≤258∧k+ms≤s.size∧(ms=258∨k+ms=s.size):=by rw[←hms];unfold most;omega
 have HG:=hid (z5X s p k);have HMS:=hid hms;clear H hms;obtain⟨z,hz⟩:∃z,lng s p k=z:=⟨_,rfl⟩
 rw[hz] at HG ⊢;have hzm:z≤ms:=by have:=HG.out.le;rw[HMS.out] at this;exact this
 clear hz;go_enter Tryz.func76,Tryz.ntmps76;go_wp2_with fail
 go_loopw [7] (fun i wr=> ∃n c:Nat,i=.int .i64 n∧n≤z∧wr=w.drewN c) (fun i _=>z - (intOf i).toNat)
 case atStart=>exact⟨0,0,rfl,qZ,rfl⟩
 case round=>
  obtain⟨n,c,rfl,hn,rfl⟩:=hrel;by_cases c0:n<258
  · have d0:decide (n<258)=true:=q9T c0
    have d0':decide ((n:Int)<258)=true:=q9T (by omega);obtain⟨y,hy⟩:∃y,k+n=y:=⟨_,rfl⟩
    have w2:IntKind.i64.wrap ((k:Int)+(n:Int))=(y:Int):=by rw[IntWalk.i64_in _ (by omega)];omega
    have w4:(k:Int)+(n:Int)=(y:Int):=by omega
    by_cases c1:y<s.size
    · have d1:decide (y<s.size)=true:=q9T c1
      have d1':decide ((y:Int)<(s.size:Int))=true:=q9T (by omega);obtain⟨x,hx⟩:∃x,p+n=x:=⟨_,rfl⟩
      have i1:x<s.size:=by omega
      have b1:=z0H i1;have b2:=z0H c1;have w1:IntKind.i64.wrap ((p:Int)+(n:Int))=(x:Int):=by rw[IntWalk.i64_in _ (by omega)];omega
      have w3:(p:Int)+(n:Int)=(x:Int):=by omega
      by_cases c2:byt s x=byt s y
      · have c3:n<z:=by
         rcases Nat.lt_or_ge n z with g|g
         · exact g
         · obtain rfl:n=z:=by omega
           rcases HG.out.stop with q|q
           · rw[HMS.out] at q;omega
           · rw[hx,hy] at q;exact absurd c2 q
        have ee:(((s[x]'i1).toNat:Int)==((s[y]'c1).toNat:Int))=true:=by rw[b1,b2,c2];simp
        clear b1 b2 c2 hx hy;go_wp2_with fail
        go_quiet (fail)
        clear w3 w4;go_wp2_with fail;go_roundw
        case rel=>exact⟨n+1,_,by go_num,by omega,rfl⟩
        case measure=>simp[intOf];omega
      · have c3:n=z:=by
         rcases Nat.lt_or_ge n z with g|g
         · have:=HG.out.same n g
           rw[hx,hy] at this;exact absurd this c2
         · omega
        have ee:(((s[x]'i1).toNat:Int)==((s[y]'c1).toNat:Int))=false:=by rw[b1,b2,qN];omega
        clear b1 b2 c2 hx hy;subst c3;go_wp2_with fail
        go_quiet (fail)
        clear w3 w4;go_wp2_with fail;go_ret;exact⟨rfl,_,World.drewN_drewN _ _ _⟩
    · have d1:decide (y<s.size)=false:=qF c1
      have d1':decide ((y:Int)<(s.size:Int))=false:=qF (by omega);obtain rfl:n=z:=by omega
      clear hy;go_wp2_with fail
      go_quiet (fail)
      clear w4;go_wp2_with fail;go_ret;exact⟨rfl,_,World.drewN_drewN _ _ _⟩
  · have d0:decide (n<258)=false:=qF c0
    have d0':decide ((n:Int)<258)=false:=qF (by omega);obtain rfl:n=z:=by omega
    go_wp2_with fail
    go_quiet (fail)
    go_wp2_with fail;go_ret;exact⟨rfl,_,World.drewN_drewN _ _ _⟩
end Q
end Go.Proofs.YtacelhaidcmbcaaGreatDoor.V.Px
namespace Go.Proofs.YtacelhaidcmbcaaGreatDoor.V.Px
open Go.Lib (hid)
namespace Q
open Go Go.RowKit M
def isC(s:ByteArray)(k p:Nat):Bool:=at3 s p (byt s k) (byt s (k+1)) (byt s (k+2))
def z4E(s:ByteArray)(k j:Nat):List Nat:=((List.range j).map fun i=>k - 1 - i).filter (isC s k)
theorem z5I(s:ByteArray)(k j:Nat):z4E s k (j+1)=z4E s k j++(if isC s k (k - 1 - j)=true then[k - 1 - j] else[]):=by
 unfold z4E;rw[List.range_succ,List.map_append,List.filter_append];congr 1;simp only[List.map_cons,List.map_nil,List.filter_cons,List.filter_nil]
theorem zcX(s:ByteArray)(k:Nat){j j':Nat}(h:j≤j'):∃t,z4E s k j'=z4E s k j++t:=by
 obtain⟨d,rfl⟩:=Nat.exists_eq_add_of_le h;clear h
 induction d with
 |zero=>exact⟨[],by simp⟩
 |succ d ih=>
  obtain⟨t,ht⟩:=ih;exact⟨t++(if isC s k (k - 1 - (j+d))=true then[k - 1 - (j+d)] else[]),by rw[←Nat.add_assoc,z5I,ht,qD]⟩
theorem zas(k:Nat):(List.range k).reverse=(List.range k).map fun i=>k - 1 - i:=by
 apply List.ext_getElem?
 intro i;by_cases c:i<k
 · rw[List.getElem?_reverse (by rw[List.length_range];exact c),List.length_range,List.getElem?_range (by omega),List.getElem?_map,List.getElem?_range c];rfl
 · rw[List.getElem?_eq_none (by simp;omega),List.getElem?_eq_none (by simp;omega)]
theorem zcY{s:ByteArray}{k:Nat}(hk:k+3≤s.size):(cnd s (List.range k) k).reverse=z4E s k (min k 32768):=by
 unfold cnd z4E grp;rw[if_pos hk,←List.filter_reverse,←List.filter_reverse,zas,List.filter_filter]
 have e:(fun p:Nat=>(decide (p<k)&&decide (k≤p+32768))&&at3 s p (byt s k) (byt s (k+1)) (byt s (k+2)))=(fun p=>isC s k p&& (decide (p<k)&&decide (k≤p+32768))):=by
  funext p;rw[Bool.and_comm];rfl
 rw[e,←List.filter_filter];congr 1;rw[List.filter_map]
 have e2:(List.range k).filter ((fun p:Nat=>decide (p<k)&&decide (k≤p+32768)) ∘ fun i=>k - 1 - i)=List.range (min k 32768):=by
  have e3:(List.range k).filter ((fun p:Nat=>decide (p<k)&&decide (k≤p+32768)) ∘ fun i=>k - 1 - i)=(List.range k).filter (fun i=>decide (i<32768)):=by
   apply List.filter_congr
   intro i hi;have:=List.mem_range.1 hi;show(decide (k - 1 - i<k)&&decide (k≤k - 1 - i+32768))=decide (i<32768)
   rw[q9T (show k - 1 - i<k by omega),Bool.true_and,decide_eq_decide];omega
  rw[e3,z66 (i:=32768) (fun j y hj hlt=> ?_) (fun j y hj hle=> ?_),List.take_range]
  · rw[Nat.min_comm]
  · rw[List.getElem?_eq_some_iff] at hj
    obtain⟨_,rfl⟩:=hj
    simpa using hlt
  · rw[List.getElem?_eq_some_iff] at hj
    obtain⟨_,rfl⟩:=hj
    simpa using hle
 rw[e2]
theorem zaT{s:ByteArray}{k:Nat}(hk:k+3≤s.size)(d:Int):nr s (List.range k) k d=(z4E s k (min k 32768)).take d.toNat:=by
 unfold nr;rw[zcY hk]
theorem zaV{s:ByteArray}{k:Nat}(hk:k+3≤s.size)(d:Int)(h:(z4E s k (min k 32768)).length≤d.toNat):nr s (List.range k) k d=z4E s k (min k 32768):=by
 rw[zaT hk,List.take_of_length_le h]
theorem zgo{s:ByteArray}{k j:Nat}(hk:k+3≤s.size)(d:Int)(hj:j≤min k 32768)(h:(z4E s k j).length=d.toNat):nr s (List.range k) k d=z4E s k j:=by
 obtain⟨t,ht⟩:=zcX s k hj;rw[zaT hk,ht,←h,List.take_left]
theorem zgn{s:ByteArray}{L:List Nat}{k:Nat}(hk:¬k+3≤s.size)(d:Int):nr s L k d=[]:=by
 unfold nr cnd;rw[if_neg hk];simp
def Owi(B:Nat)(w:World)(v:Value)(l:List Nat):Prop:=w.ownsRow B 3 1 v l.length (l.map fun p:Nat=>Value.int .i64 (p:Int))
theorem Owi.nil(B:Nat)(w:World):Owi B w (.slice none 0 0) []:=World.ownsRow_nil w B _ 1
theorem Owi.alloc{B:Nat}{w:World}{v:Value}{l:List Nat}(h:Owi B w v l)(o:Obj):Owi B (w.alloc o) v l:=World.ownsRow.alloc h o
theorem Owi.drewN{B:Nat}{w:World}{v:Value}{l:List Nat}(h:Owi B w v l)(n:Nat):Owi B (w.drewN n) v l:=h
theorem Owi.form{B:Nat}{w:World}{v:Value}{l:List Nat}(h:Owi B w v l):∃A c,v=.slice A l.length c:=by
 rcases h.2 with⟨h1,h2⟩|⟨g,cap,cur,rfl,_⟩
 · exact⟨none,0,by rw[h1,h2]⟩
 · exact⟨_,cap,rfl⟩
theorem zjb(w:World)(n:Nat)(v:Value)(T:TypeId):((w.drewN n).alloc (.cells #[v] T)).cell? ⟨w.heap.size,0,none⟩=some v:=by
 have h:((w.drewN n).alloc (.cells #[v] T)).heap[w.heap.size]? =some (.cells #[v] T (0,0)):=new_at (w.drewN n) (.cells #[v] T);simp only[World.cell?,h];rfl
theorem ziR(w:World)(n:Nat)(o:Obj):((w.drewN n).alloc o).heap.size=w.heap.size+1:=World.size_alloc (w.drewN n) o
theorem z3w{B:Nat}{w w':World}(h:Below B w w')(n:Nat):Below B w (w'.drewN n):=⟨h.os,h.tape,h.output,h.size,h.block⟩
theorem intInfo:(Tryz.prog.info? 3).map (fun i=>(i.zero,i.size,i.bytes))=some (some (.int .i64 0),1,8):=by kernel_rfl
theorem z8A{ops:Array Oper}{rest:List Oper}{o:Oper}{a:Act}{w:World}{Q:Exit→Act→World→Prop}(hgd:o.guard=none)(s x:Operand)
 (ho:o.op=.call {callee:=.builtin .append,args:= #[s,x],argTypes:= #[130,130]}) (B:Nat) (v:Value) (l:List Nat) (hs:a.eval s=v) (h:Owi B w v l) (b c p:Nat)
 (hx:a.eval x=.slice (some ⟨b,0,none⟩) 1 c) (hc:w.cell? ⟨b,0,none⟩=some (.int .i64 (p:Int))) (hL:l.length≤1000000) (hB:B≤w.heap.size)
 (hK:∀v' w',Owi B w' v' (l++[p])→w.grownBy w' v.ownBlock→Below B w w'→wpList Tryz.prog ops Q rest (a.put o.dst v') w'):wpList Tryz.prog ops Q (o::rest) a w:=
 wpList_plain hgd fun K hK'=>by
  obtain⟨i,h1,h2,h3,h4⟩:=info_of intInfo
  obtain⟨v',w',r1,r2,r3,_⟩:=run_append_own (P:= Tryz.prog) w B 130 o.type 3 i _ 1 8 Tryz.underlying130 h1 h2 h3 h4 rfl (by decide) v l.length (l.map fun p:Nat=>Value.int .i64 (p:Int)) h ⟨b,0,none⟩ 1 c [.int .i64 (p:Int)] rfl
   (fun j u hu=>by
    match j,hu with
    |0,hu=>simp at hu;subst hu;rw[cadd_at];exact hc) (by intro u hu;simp at hu;subst hu;rfl) (by unfold maxLen;omega) (by omega) hB
  unfold Oper.wp execOp;simp only[ho,resolve,invoke,builtin,Sem.run_bind,Sem.run_pure,Result.andThen_ok,List.map_toArray,List.map_cons,List.map_nil,hs,hx,r1];refine hK' _ _ (hK v' w' ?_ r3 ((Below.refl _ w).grown r3 hB (fun k hk=>(World.ownsRow.lt h k hk).1)));unfold Owi;rw[qA,List.map_append];exact r2
def PlP(W:World)(l:List Nat)(e:Ending)(w':World):Prop:=∃v,e=.returned v∧Owi W.heap.size w' v l∧Below W.heap.size W w'
theorem z6A{W:World}{B F b:Nat}{s:ByteArray}{k:Nat}(H:Rf W B F b s k)(d:Int)(hd: -9223372036854775808≤d∧d≤9223372036854775807):
 Calls Tryz.prog 75 #[.pointer (some ⟨F,0,none⟩),.int .i64 k,.int .i64 d] W (PlP W (nr s (List.range k) k d)):=by
 have h0:=H.fd.at0;have h1:=H.fd.at1;have hlen:=H.len;have hkle:=H.le;have d0:decide ((k:Int)<0)=false:=qF (by omega);by_cases hk:k+3≤s.size
 · have d1:decide ((s.size:Int) - 3<(k:Int))=false:=qF (by omega)
   have HH:=hid H;clear H h1;obtain⟨Z,hZ⟩:∃Z,nr s (List.range k) k d=Z:=⟨_,rfl⟩
   rw[hZ];have HZ:=hid hZ;clear hZ;go_enter Tryz.func75,Tryz.ntmps75;go_wp2_with fail;clear h0
   go_loopw [7,8] (fun v pv wr=> ∃j,j≤min k 32768∧pv=.int .i64 ((k:Int) - 1 - (j:Nat))∧Owi W.heap.size wr v (z4E s k j)∧(z4E s k j).length≤d.toNat∧Below W.heap.size W wr) (fun _ pv _=>(intOf pv+1).toNat)
   case atStart=>exact⟨0,qZ,by rw[Int.natCast_zero,Int.sub_zero],Owi.nil _ _,qZ,Below.refl _ _⟩
   case round=>
    obtain⟨j,hj,rfl,hO,hl,hb⟩:=hrel
    have hsl:(z4E s k j).length≤j:=by
     unfold z4E;exact qK (List.length_filter_le _ _) (by simp)
    obtain⟨A,c,rfl⟩:=hO.form;obtain⟨n0,hn0⟩:∃n0,(z4E s k j).length=n0:=⟨_,rfl⟩
    rw[hn0] at hl hsl hO ⊢;have HN:=hid hn0;have HO:=hid (show Owi W.heap.size wr (.slice A n0 c) (z4E s k j) from by unfold Owi;rw[hn0];unfold Owi at hO;rw[hn0] at hO;exact hO);have HB:=hid hb;clear hO hb hn0;by_cases hjk:j<k
    · obtain⟨P,hP⟩:∃P,k - 1 - j=P:=⟨_,rfl⟩
      have hPi:(k:Int) - 1 - (j:Nat)=(P:Int):=by omega
      rw[hPi];have hPk:(P:Int)+(j:Int)+1=(k:Int):=by omega
      have d2:decide (0≤(P:Int))=true:=q9T (by omega);obtain⟨j1,hj1⟩:∃j1,j+1=j1:=⟨_,rfl⟩
      have e1:(k:Int) - (P:Int)=(j1:Int):=by omega
      clear hPi;by_cases hjw:j<32768
      · have d3:decide ((j1:Int)≤32768)=true:=q9T (by omega)
        have d3':decide (j1≤32768)=true:=q9T (by omega);by_cases hd3:(n0:Int)<d
        · have d4:decide ((n0:Int)<d)=true:=q9T hd3
          obtain⟨P1,hP1⟩:∃P1,P+1=P1:=⟨_,rfl⟩
          obtain⟨P2,hP2⟩:∃P2,P+2=P2:=⟨_,rfl⟩
          obtain⟨k1,hk1⟩:∃k1,k+1=k1:=⟨_,rfl⟩
          obtain⟨k2,hk2⟩:∃k2,k+2=k2:=⟨_,rfl⟩
          have i0:P<s.size:=by omega
          have i1:P1<s.size:=by omega
          have i2:P2<s.size:=by omega
          have m0:k<s.size:=by omega
          have m1:k1<s.size:=by omega
          have m2:k2<s.size:=by omega
          have b0:=z0H i0;have b1:=z0H i1;have b2:=z0H i2;have n0':=z0H m0;have n1':=z0H m1;have n2':=z0H m2;have v1:IntKind.i64.wrap ((P:Int)+1)=(P1:Int):=by rw[IntWalk.i64_in _ (by omega)];omega
          have v2:IntKind.i64.wrap ((P:Int)+2)=(P2:Int):=by rw[IntWalk.i64_in _ (by omega)];omega
          have v3:IntKind.i64.wrap ((k:Int)+1)=(k1:Int):=by rw[IntWalk.i64_in _ (by omega)];omega
          have v4:IntKind.i64.wrap ((k:Int)+2)=(k2:Int):=by rw[IntWalk.i64_in _ (by omega)];omega
          have u1:(P:Int)+1=(P1:Int):=by omega
          have u2:(P:Int)+2=(P2:Int):=by omega
          have u3:(k:Int)+1=(k1:Int):=by omega
          have u4:(k:Int)+2=(k2:Int):=by omega
          have hRr:=HH.out.below HB.out;have r0:=hRr.fd.at0;have r1:=hRr.fd.at1;have rb:=(World.rowIs.cell hRr.row (i:=P) i0).trans (by rw[q9T (show P<k by omega)]);have hsc:=z5I s k j;rw[hP] at hsc
          have hi3:isC s k P=true↔byt s P=byt s k∧byt s P1=byt s k1∧byt s P2=byt s k2:=by
           unfold isC;rw[z3x,hP1,hP2,hk1,hk2];exact⟨fun q=>q.2,fun q=>⟨by omega,q⟩⟩
          by_cases e0q:byt s P=byt s k
          · have q0:(((s[P]'i0).toNat:Int)==((s[k]'m0).toNat:Int))=true:=by rw[b0,n0',e0q];simp
            by_cases e1q:byt s P1=byt s k1
            · have q1:(((s[P1]'i1).toNat:Int)==((s[k1]'m1).toNat:Int))=true:=by rw[b1,n1',e1q];simp
              by_cases e2q:byt s P2=byt s k2
              · have q2:(((s[P2]'i2).toNat:Int)==((s[k2]'m2).toNat:Int))=true:=by rw[b2,n2',e2q];simp
                rw[hi3.2 ⟨e0q,e1q,e2q⟩,if_pos rfl] at hsc;have HSC:=hid hsc;have hn9:n0≤1000000:=by omega
                clear hsc hi3 b0 b1 b2 n0' n1' n2' hRr hP hP1 hP2 hk1 hk2 e0q e1q e2q;go_wp2_with fail
                go_quiet (fail)
                clear r0 r1 rb v1 v2 v3 v4 u1 u2 u3 u4;go_wp2_with (at_builtin;refine z8A rfl (.tmp 95) (.tmp 97) rfl W.heap.size (.slice A n0 c) (z4E s k j) rfl ((HO.out.drewN _).alloc _) wr.heap.size 1 P rfl (zjb wr nq _ _) (by rw[HN.out];exact hn9) (by have:=HB.out.size;rw[ziR];omega) ?_;intro v' w' o' g' b';have HO2:=hid o';have HB2:=hid (((z3w HB.out nq).alloc HB.out.size _).trans b');clear o' b' g');go_roundw
                case rel=>exact⟨j+1,by omega,by rw[show(P:Int) - 1=(k:Int) - 1 - ((j+1:Nat):Int) by omega],by rw[HSC.out];exact HO2.out,by rw[HSC.out,qA,HN.out,List.length_singleton];omega,HB2.out⟩
                case measure=>(simp[intOf];try omega)
              · have q2:(((s[P2]'i2).toNat:Int)==((s[k2]'m2).toNat:Int))=false:=by rw[b2,n2',qN];omega
                have hc3:isC s k P=false:=by cases q:isC s k P with|false=>rfl|true=>(have:=hi3.1 q;omega)
                rw[hc3,if_neg (by decide),List.append_nil] at hsc;have HSC:=hid hsc;clear hsc hi3 hc3 b0 b1 b2 n0' n1' n2' hRr hP hP1 hP2 hk1 hk2 e0q e1q e2q;go_wp2_with fail
                go_quiet (fail)
                clear r0 r1 rb v1 v2 v3 v4 u1 u2 u3 u4;go_wp2_with fail;go_roundw
                case rel=>exact⟨j+1,by omega,by rw[show(P:Int) - 1=(k:Int) - 1 - ((j+1:Nat):Int) by omega],by rw[HSC.out];exact HO.out.drewN _,by rw[HSC.out,HN.out];exact hl,((Kept.of_below HB.out).drewN _).below qR (fun _ g=>g.elim)⟩
                case measure=>(simp[intOf];try omega)
            · have q1:(((s[P1]'i1).toNat:Int)==((s[k1]'m1).toNat:Int))=false:=by rw[b1,n1',qN];omega
              have hc3:isC s k P=false:=by cases q:isC s k P with|false=>rfl|true=>(have:=hi3.1 q;omega)
              rw[hc3,if_neg (by decide),List.append_nil] at hsc;have HSC:=hid hsc;clear hsc hi3 hc3 b0 b1 b2 n0' n1' n2' hRr hP hP1 hP2 hk1 hk2 e0q e1q;go_wp2_with fail
              go_quiet (fail)
              clear r0 r1 rb v1 v2 v3 v4 u1 u2 u3 u4;go_wp2_with fail;go_roundw
              case rel=>exact⟨j+1,by omega,by rw[show(P:Int) - 1=(k:Int) - 1 - ((j+1:Nat):Int) by omega],by rw[HSC.out];exact HO.out.drewN _,by rw[HSC.out,HN.out];exact hl,((Kept.of_below HB.out).drewN _).below qR (fun _ g=>g.elim)⟩
              case measure=>(simp[intOf];try omega)
          · have q0:(((s[P]'i0).toNat:Int)==((s[k]'m0).toNat:Int))=false:=by rw[b0,n0',qN];omega
            have hc3:isC s k P=false:=by cases q:isC s k P with|false=>rfl|true=>(have:=hi3.1 q;omega)
            rw[hc3,if_neg (by decide),List.append_nil] at hsc;have HSC:=hid hsc;clear hsc hi3 hc3 b0 b1 b2 n0' n1' n2' hRr hP hP1 hP2 hk1 hk2 e0q;go_wp2_with fail
            go_quiet (fail)
            clear r0 r1 rb v1 v2 v3 v4 u1 u2 u3 u4;go_wp2_with fail;go_roundw
            case rel=>exact⟨j+1,by omega,by rw[show(P:Int) - 1=(k:Int) - 1 - ((j+1:Nat):Int) by omega],by rw[HSC.out];exact HO.out.drewN _,by rw[HSC.out,HN.out];exact hl,((Kept.of_below HB.out).drewN _).below qR (fun _ g=>g.elim)⟩
            case measure=>(simp[intOf];try omega)
        · have d4:decide ((n0:Int)<d)=false:=qF hd3
          have hZ2:=zgo hk d hj (by rw[HN.out];omega);rw[HZ.out] at hZ2;have HZ2:=hid hZ2;clear hZ2 hP;go_wp2_with fail;go_ret;exact⟨_,rfl,by rw[HZ2.out];exact HO.out,HB.out⟩
      · have d3:decide ((j1:Int)≤32768)=false:=qF (by omega)
        have d3':decide (j1≤32768)=false:=qF (by omega);have hjm:j=min k 32768:=by omega
        have hZ2:=zaV hk d (by rw[←hjm,HN.out];omega);rw[HZ.out,←hjm] at hZ2;have HZ2:=hid hZ2;clear hZ2 hP hjm;go_wp2_with fail;go_ret;exact⟨_,rfl,by rw[HZ2.out];exact HO.out,HB.out⟩
    · have hPi:(k:Int) - 1 - (j:Nat)= -1:=by omega
      rw[hPi];have hjm:j=min k 32768:=by omega
      have hZ2:=zaV hk d (by rw[←hjm,HN.out];omega);rw[HZ.out,←hjm] at hZ2;have HZ2:=hid hZ2;clear hZ2 hjm hPi;go_wp2_with fail;go_ret;exact⟨_,rfl,by rw[HZ2.out];exact HO.out,HB.out⟩
 · have d1:decide ((s.size:Int) - 3<(k:Int))=true:=q9T (by omega)
   rw[zgn hk];clear H h1;go_enter Tryz.func75,Tryz.ntmps75;go_wp2_with fail;go_ret;exact⟨_,rfl,Owi.nil _ _,Below.refl _ _⟩
end Q
end Go.Proofs.YtacelhaidcmbcaaGreatDoor.V.Px
namespace Go.Proofs.YtacelhaidcmbcaaGreatDoor.V.Px
open Go.Lib (hid)
namespace Q
open Go Go.RowKit M
theorem Owi.cells{B:Nat}{w:World}{v:Value}{l:List Nat}(h:Owi B w v l){j:Nat}(hj:j<l.length):∃g c,v=.slice (some ⟨g,0,none⟩) l.length c∧B≤g∧∀i (hi:i<l.length),w.cell? ⟨g,i,none⟩=some (.int .i64 ((l.getD i 0:Nat):Int)):=by
 have hc:=fun g (hg:v.ownBlock=some g)=>World.ownsRow.cells h hg
 rcases h.2 with⟨h1,h2⟩|⟨g,cap,cur,rfl,hg,_⟩
 · omega
 · refine⟨g,cap,rfl,hg,fun i hi=> ?_⟩
   have:=hc g rfl i (.int .i64 ((l.getD i 0:Nat):Int)) (by rw[List.getElem?_map,qE hi,List.getD,qE hi];rfl);rw[cadd_at,Nat.zero_add] at this;exact this
theorem zdY{s:ByteArray}{k:Nat}{nice over:Int}{l:List Nat}{j:Nat}{mm:Nat×Nat}(hj:j<l.length):fnd s k nice over (l.drop j) mm=if nice≤(lng s (l.getD j 0) k:Int) then stp s k over mm (l.getD j 0) else fnd s k nice over (l.drop (j+1)) (stp s k over mm (l.getD j 0)):=by
 rw[List.drop_eq_getElem_cons hj,fnd];have e:l[j]=l.getD j 0:=by rw[List.getD,qE hj];rfl
 rw[e]
theorem z1k:(Tryz.prog.info? 68).map (fun i=>i.size)=some 2:=by kernel_rfl
theorem zak{W:World}{B F b:Nat}{s:ByteArray}{k:Nat}(H:Rf W B F b s k)(d nice over:Int)(hd: -9223372036854775808≤d∧d≤9223372036854775807):
 Calls Tryz.prog 49 #[.pointer (some ⟨F,0,none⟩),.int .i64 k,.int .i64 d,.int .i64 nice,.int .i64 over] W fun e w'=>e=.returned (.agg #[.int .i64 ((fnd s k nice over (nr s (List.range k) k d) (0,0)).1:Nat),.int .i64 ((fnd s k nice over (nr s (List.range k) k d) (0,0)).2:Nat)])∧Below W.heap.size W w':=by
 have HH:=hid H;have hkle:=H.le;have hlen:=H.len;obtain⟨l,hl⟩:∃l,nr s (List.range k) k d=l:=⟨_,rfl⟩
 have HMem:=hid (show ∀j,j<l.length→l.getD j 0<k from fun j hj=>by
  have hm:l.getD j 0∈nr s (List.range k) k d:=by rw[hl,List.getD,qE hj];exact List.getElem_mem _
  exact(z5j (zaU hm)).2.1)
 have HLen:=hid (show l.length≤2000000 from by
  rw[←hl,z7V]
  have h1:(cnd s (List.range k) k).length≤k:=by
   unfold cnd grp
   split
   · exact qK (List.length_filter_le _ _) (qK (List.length_filter_le _ _) (by rw[List.length_range];exact qR))
   · exact qZ
  omega)
 obtain⟨X,Y,hXY⟩:∃X Y,fnd s k nice over l (0,0)=(X,Y):=⟨_,_,rfl⟩
 rw[hl,hXY]
 have HP:=hid (fun w (hb:Below W.heap.size W w)=>(show Calls Tryz.prog 75 #[.pointer (some ⟨F,0,none⟩),.int .i64 k,.int .i64 d] w (PlP w l) from by
  have:=z6A (H.below hb) d hd;rw[hl] at this;exact this))
 have HXY:=hid hXY;clear H hl hXY;go_enter Tryz.func49,Tryz.ntmps49;go_wp2_with (go_at_call 75;refine(HP.out _ (((Below.refl _ W).alloc qR _).alloc (by simp) _)).mono ?_;rintro e w1 ⟨v,rfl,hv,hb⟩);obtain⟨A,c,rfl⟩:=hv.form;have hz2:((W.alloc (.cells #[.int .i64 0,.int .i64 0] 68)).alloc (.cells #[.int .i64 0,.int .i64 0] 68)).heap.size=W.heap.size+2:=by simp
 have hg0:B2 w1 68 W.heap.size (.int .i64 0) (.int .i64 0):=(hb.block W.heap.size (by rw[hz2];omega)).trans (old_at _ (new_at _ _))
 have hm0:B2 w1 68 (W.heap.size+1) (.int .i64 ((0:Nat):Int)) (.int .i64 ((0:Nat):Int)):=(hb.block (W.heap.size+1) (by rw[hz2];omega)).trans (by
  have:=new_at (W.alloc (.cells #[.int .i64 0,.int .i64 0] 68)) (.cells #[.int .i64 0,.int .i64 0] 68);rw[World.size_alloc] at this;exact this)
 rw[hz2] at hv hb;have hb1:Below W.heap.size W w1:=(((Below.refl _ W).alloc qR _).alloc (by simp) _).trans (hb.mono (by omega));have HV:=hid hv;have HG0:=hid hg0;have HM0:=hid hm0;have HB1:=hid hb1;obtain⟨n,hn⟩:∃n,l.length=n:=⟨_,rfl⟩
 have HN:=hid hn;rw[hn];have hn9:n≤2000000:=by have:=HLen.out;omega
 clear hv hg0 hm0 hb1 hb hz2 hn HP
 go_loopw [13] (fun i wr=> ∃j m1 m2:Nat,j≤n∧i=.int .i64 j∧B2 wr 68 W.heap.size (.int .i64 0) (.int .i64 0)∧B2 wr 68 (W.heap.size+1) (.int .i64 m1) (.int .i64 m2)∧Owi (W.heap.size+2) wr (.slice A n c) l∧Below W.heap.size W wr∧fnd s k nice over (l.drop j) (m1,m2)=(X,Y)) (fun i _=>n - (intOf i).toNat)
 case atStart=>exact⟨0,0,0,qZ,rfl,HG0.out,HM0.out,by have:=HV.out;rw[HN.out] at this;exact this,HB1.out,HXY.out⟩
 case round=>
  obtain⟨j,m1,m2,hj,rfl,hG,hM,hO,hb,hf⟩:=hrel;have g0:=hG.at0;have g1:=hG.at1;have gf0:=hG.free 0;have gf1:=hG.free 1;have a0:=hM.at0;have a1:=hM.at1;have af0:=hM.free 0;have af1:=hM.free 1;have HG:=hid hG;have HM:=hid hM;have HO:=hid hO;have HB:=hid hb;by_cases hlt:j<n
  · obtain⟨gg,cc,hvv,hgg,hcc⟩:=hO.cells (j:=j) (by rw[HN.out];exact hlt)
    have hfs:=zdY (s:=s) (k:=k) (nice:=nice) (over:=over) (l:=l) (mm:=(m1,m2)) (j:=j) (by rw[HN.out];exact hlt);rw[hf] at hfs;have hpk:=HMem.out j (by rw[HN.out];exact hlt);have hcj:=hcc j (by rw[HN.out];exact hlt);obtain⟨p,hp⟩:∃p,l.getD j 0=p:=⟨_,rfl⟩
    rw[hp] at hfs hpk hcj;obtain⟨rfl,hl2,rfl⟩:A=some ⟨gg,0,none⟩∧n=l.length∧c=cc:=by simpa using hvv
    have HL:=hid (zag (HH.out.below HB.out) p k hpk hkle);obtain⟨z,hz⟩:∃z,lng s p k=z:=⟨_,rfl⟩
    rw[hz] at HL hfs;have hz9:=(zbb s p k).1;rw[hz] at hz9;obtain⟨y,hy⟩:∃y,k - p=y:=⟨_,rfl⟩
    have ey:(k:Int) - (p:Int)=(y:Int):=by omega
    have hstp:stp s k over (m1,m2) p=if over<(z:Int)∧m1<z then(z,y) else(m1,m2):=by
     unfold stp;rw[hz,hy]
    rw[hstp] at hfs;clear hG hM hO hb hf hvv hgg hcc hp hz hl2 hy hstp;by_cases q1:over<(z:Int)
    · have e1:decide (over<(z:Int))=true:=q9T q1
      by_cases q2:m1<z
      · have e2:decide ((m1:Int)<(z:Int))=true:=q9T (by omega)
        have e2':decide (m1<z)=true:=q9T q2;by_cases q3:nice≤(z:Int)
        · have e3:decide (nice≤(z:Int))=true:=q9T q3
          rw[if_pos q3,if_pos (show over<(z:Int)∧m1<z from⟨q1,q2⟩)] at hfs;obtain⟨rfl,rfl⟩:X=z∧Y=y:=by injection hfs with a b;exact⟨a,b⟩
          clear hfs;go_wp2_with (go_at_call 76;(with_reducible refine HL.out.mono ?_);rintro e w3 ⟨rfl,nq,rfl⟩);have HR:=hid (B2.set (B2.of_block (w':=(((wr.drewN nq).setCell ⟨W.heap.size+1,0,none⟩ (.int .i64 (X:Int))).setCell ⟨W.heap.size+1,1,none⟩ (.int .i64 (Y:Int)))) HG.out ((Below.heap_setCell _ _ _ _ (by show W.heap.size≠W.heap.size+1;omega)).trans (Below.heap_setCell _ _ _ _ (by show W.heap.size≠W.heap.size+1;omega)))) (.int .i64 (X:Int)) (.int .i64 (Y:Int)));refine bodyPost_ret (v:=.agg #[.int .i64 (X:Int),.int .i64 (Y:Int)]) (results_cell_row rfl _ _ W.heap.size _ _ _ _ rfl HR.out Tryz.underlying68 rfl z1k) rfl ⟨rfl,((((z3w HB.out nq).setCell (p:=⟨W.heap.size+1,0,none⟩) (by simp) _).setCell (p:=⟨W.heap.size+1,1,none⟩) (by simp) _).setCell (p:=⟨W.heap.size,0,none⟩) qR _).setCell (p:=⟨W.heap.size,1,none⟩) qR _⟩
        · have e3:decide (nice≤(z:Int))=false:=qF q3
          rw[if_neg q3,if_pos (show over<(z:Int)∧m1<z from⟨q1,q2⟩)] at hfs;have HFS:=hid hfs.symm;clear hfs;go_wp2_with (go_at_call 76;(with_reducible refine HL.out.mono ?_);rintro e w3 ⟨rfl,nq,rfl⟩);go_roundw
          case rel=>exact⟨j+1,z,y,by omega,by go_num,B2.of_block HG.out ((Below.heap_setCell _ _ _ _ (by show W.heap.size≠W.heap.size+1;omega)).trans (Below.heap_setCell _ _ _ _ (by show W.heap.size≠W.heap.size+1;omega))),(B2.set (B2.of_block (w':=wr.drewN nq) HM.out rfl) _ _),z0c HO.out (fun g hg=>by have:=(World.ownsRow.lt HO.out g hg).1;exact(Below.heap_setCell _ _ _ _ (by show g≠W.heap.size+1;omega)).trans (Below.heap_setCell _ _ _ _ (by show g≠W.heap.size+1;omega))),((z3w HB.out nq).setCell (p:=⟨W.heap.size+1,0,none⟩) (by simp) _).setCell (p:=⟨W.heap.size+1,1,none⟩) (by simp) _,HFS.out⟩
          case measure=>(simp[intOf];try omega)
      · have e2:decide ((m1:Int)<(z:Int))=false:=qF (by omega)
        have e2':decide (m1<z)=false:=qF q2;by_cases q3:nice≤(z:Int)
        · have e3:decide (nice≤(z:Int))=true:=q9T q3
          rw[if_pos q3,if_neg (show ¬(over<(z:Int)∧m1<z) from fun q=>q2 q.2)] at hfs;obtain⟨rfl,rfl⟩:X=m1∧Y=m2:=by injection hfs with a b;exact⟨a,b⟩
          clear hfs;go_wp2_with (go_at_call 76;(with_reducible refine HL.out.mono ?_);rintro e w3 ⟨rfl,nq,rfl⟩);have HR:=hid (B2.set (B2.of_block (w':=wr.drewN nq) HG.out rfl) (.int .i64 (X:Int)) (.int .i64 (Y:Int)));refine bodyPost_ret (v:=.agg #[.int .i64 (X:Int),.int .i64 (Y:Int)]) (results_cell_row rfl _ _ W.heap.size _ _ _ _ rfl HR.out Tryz.underlying68 rfl z1k) rfl ⟨rfl,((z3w HB.out nq).setCell (p:=⟨W.heap.size,0,none⟩) qR _).setCell (p:=⟨W.heap.size,1,none⟩) qR _⟩
        · have e3:decide (nice≤(z:Int))=false:=qF q3
          rw[if_neg q3,if_neg (show ¬(over<(z:Int)∧m1<z) from fun q=>q2 q.2)] at hfs;have HFS:=hid hfs.symm;clear hfs;go_wp2_with (go_at_call 76;(with_reducible refine HL.out.mono ?_);rintro e w3 ⟨rfl,nq,rfl⟩);go_roundw
          case rel=>exact⟨j+1,m1,m2,by omega,by go_num,B2.of_block HG.out rfl,B2.of_block HM.out rfl,HO.out.drewN _,z3w HB.out _,HFS.out⟩
          case measure=>(simp[intOf];try omega)
    · have e1:decide (over<(z:Int))=false:=qF q1
      by_cases q3:nice≤(z:Int)
      · have e3:decide (nice≤(z:Int))=true:=q9T q3
        rw[if_pos q3,if_neg (show ¬(over<(z:Int)∧m1<z) from fun q=>q1 q.1)] at hfs;obtain⟨rfl,rfl⟩:X=m1∧Y=m2:=by injection hfs with a b;exact⟨a,b⟩
        clear hfs;go_wp2_with (go_at_call 76;(with_reducible refine HL.out.mono ?_);rintro e w3 ⟨rfl,nq,rfl⟩);have HR:=hid (B2.set (B2.of_block (w':=wr.drewN nq) HG.out rfl) (.int .i64 (X:Int)) (.int .i64 (Y:Int)));refine bodyPost_ret (v:=.agg #[.int .i64 (X:Int),.int .i64 (Y:Int)]) (results_cell_row rfl _ _ W.heap.size _ _ _ _ rfl HR.out Tryz.underlying68 rfl z1k) rfl ⟨rfl,((z3w HB.out nq).setCell (p:=⟨W.heap.size,0,none⟩) qR _).setCell (p:=⟨W.heap.size,1,none⟩) qR _⟩
      · have e3:decide (nice≤(z:Int))=false:=qF q3
        rw[if_neg q3,if_neg (show ¬(over<(z:Int)∧m1<z) from fun q=>q1 q.1)] at hfs;have HFS:=hid hfs.symm;clear hfs;go_wp2_with (go_at_call 76;(with_reducible refine HL.out.mono ?_);rintro e w3 ⟨rfl,nq,rfl⟩);go_roundw
        case rel=>exact⟨j+1,m1,m2,by omega,by go_num,B2.of_block HG.out rfl,B2.of_block HM.out rfl,HO.out.drewN _,z3w HB.out _,HFS.out⟩
        case measure=>(simp[intOf];try omega)
  · obtain rfl:j=n:=by omega
    rw[List.drop_eq_nil_of_le (by rw[HN.out];exact qR)] at hf;obtain⟨rfl,rfl⟩:m1=X∧m2=Y:=by simpa [fnd] using hf
    have HR:=hid (HG.out.set (.int .i64 (m1:Int)) (.int .i64 (m2:Int)));clear hG hM hO hb hf;go_wp2_with fail;refine bodyPost_ret (v:=.agg #[.int .i64 (m1:Int),.int .i64 (m2:Int)]) (results_cell_row rfl _ _ W.heap.size _ _ _ _ rfl HR.out Tryz.underlying68 rfl z1k) rfl ⟨rfl,(HB.out.setCell (p:=⟨W.heap.size,0,none⟩) qR _).setCell (p:=⟨W.heap.size,1,none⟩) qR _⟩
end Q
end Go.Proofs.YtacelhaidcmbcaaGreatDoor.V.Px
namespace Go.Proofs.YtacelhaidcmbcaaGreatDoor.V.Px
open Go.Lib (hid)
namespace Q
open Go Go.RowKit M
def zbj(F:Nat)(w:World):Int:=match w.cell? ⟨F,2,none⟩ with
 |some v=>intOf v
 |none=>0
theorem Rf.last{w:World}{B F b k:Nat}{s:ByteArray}(h:Rf w B F b s k):zbj F w=(k:Int) - 1:=by
 unfold zbj;rw[h.fd.at2];rfl
def FdS(F b:Nat):Nat→Prop:=fun j=>j=F∨j=b
theorem kfd{F b:Nat}{A C D:World}(h:Kept (FdS F b) A C)(k:Kept (FdS F b) C D):Kept (FdS F b) A D:=h.trans k fun j hj=> .inl hj
theorem look_any{W:World}{B F b:Nat}{s:ByteArray}{k:Nat}(H:Rf W B F b s k)(r:Lv)(t:Nat)(over:Int)(hkt:k≤t)(hts:t≤s.size)(hd:r.d≤1000000):
 Calls Tryz.prog 26 #[.pointer (some ⟨F,0,none⟩),.int .i64 t,.agg #[.int .i64 r.d,.int .i64 r.n,.int .i64 r.z],.int .i64 over] W fun e w'=>e=.returned (.agg #[.int .i64 ((mt s r t over).1:Nat),.int .i64 ((mt s r t over).2:Nat)])∧Rf w' B F b s t∧Kept (FdS F b) W w':=by
 obtain⟨X,Y,hXY⟩:∃X Y,mt s r t over=(X,Y):=⟨_,_,rfl⟩
 rw[hXY];obtain⟨d,n,z⟩:=r;simp only at hd ⊢
 have HF:=hid (show ∀w,Rf w B F b s t→Calls Tryz.prog 49 #[.pointer (some ⟨F,0,none⟩),.int .i64 t,.int .i64 d,.int .i64 n,.int .i64 over] w fun e w'=>e=.returned (.agg #[.int .i64 (X:Nat),.int .i64 (Y:Nat)])∧Below w.heap.size w w' from fun w h=>by
  have:=zak h (d:Int) (n:Int) over ⟨by omega,by omega⟩;unfold mt at hXY;simp only at hXY;rw[hXY] at this;exact this)
 have HH:=hid H;have hlen:=H.len;have hFlt:=H.fd.lt;have hblt:=World.rowIs.lt H.row;have hw0:Rf ((W.alloc (.cells #[.int .i64 d,.int .i64 n,.int .i64 z] 60)).alloc (.cells #[.int .i64 0,.int .i64 0] 68)) B F b s k:=H.below (((Below.refl _ W).alloc qR _).alloc (by simp) _);have hk0:Kept (FdS F b) W ((W.alloc (.cells #[.int .i64 d,.int .i64 n,.int .i64 z] 60)).alloc (.cells #[.int .i64 0,.int .i64 0] 68)):=((Kept.refl _ W).alloc _).alloc _;have hr0:B3 ((W.alloc (.cells #[.int .i64 d,.int .i64 n,.int .i64 z] 60)).alloc (.cells #[.int .i64 0,.int .i64 0] 68)) 60 W.heap.size (.int .i64 d) (.int .i64 n) (.int .i64 z):=old_at _ (new_at _ _)
 have hm0:B2 ((W.alloc (.cells #[.int .i64 d,.int .i64 n,.int .i64 z] 60)).alloc (.cells #[.int .i64 0,.int .i64 0] 68)) 68 (W.heap.size+1) (.int .i64 0) (.int .i64 0):=by
  have:=new_at (W.alloc (.cells #[.int .i64 d,.int .i64 n,.int .i64 z] 60)) (.cells #[.int .i64 0,.int .i64 0] 68);rw[World.size_alloc] at this;exact this
 have HW0:=hid hw0;have HK0:=hid hk0;have HR0:=hid hr0;have HM0:=hid hm0;clear H hXY hw0 hk0 hr0 hm0;go_enter Tryz.func26,Tryz.ntmps26;go_wp2_with fail
 go_loopw [22] (fun _ wr=> ∃j,k≤j∧j≤t∧Rf wr B F b s j∧Kept (FdS F b) W wr∧B3 wr 60 W.heap.size (.int .i64 d) (.int .i64 n) (.int .i64 z)∧B2 wr 68 (W.heap.size+1) (.int .i64 0) (.int .i64 0)) (fun _ wr=>((t:Int) - 1 - zbj F wr).toNat)
 case atStart=>exact⟨k,qR,hkt,HW0.out,HK0.out,HR0.out,HM0.out⟩
 case round=>
  obtain⟨j,hj1,hj2,hRf,hk,hR,hM⟩:=hrel;have f0:=hRf.fd.at2;have hls:=hRf.last;by_cases hlt:j<t
  · have d1:decide ((j:Int) - 1<(t:Int) - 1)=true:=q9T (by omega)
    have e1:(j:Int) - 1+1=(j:Int):=by omega
    have HP:=hid (zd3 hRf (by omega:j<s.size));have HK:=hid hk;have HR:=hid hR;have HM:=hid hM;have HLs:=hid hls;clear hRf hk hR hM hls;go_wp2_with (go_at_call 48;(with_reducible refine HP.out.mono ?_);rintro e w2 ⟨rfl,hr2,hk2⟩;have HR2:=hid hr2;have HK2:=hid hk2;clear hr2 hk2);go_roundw
    case rel=>exact⟨j+1,by omega,by omega,HR2.out,kfd HK.out HK2.out,B3.of_block HR.out (HK2.out.block _ HR.out.lt (fun g=>by rcases g with g|g<;>omega)),B2.of_block HM.out (HK2.out.block _ HM.out.lt (fun g=>by rcases g with g|g<;>omega))⟩
    case measure=>rw[HR2.out.last,HLs.out];omega
  · obtain rfl:j=t:=by omega
    have d1:decide ((j:Int) - 1<(j:Int) - 1)=false:=qF (by omega);have r0:=hR.at0;have r1:=hR.at1;have HP:=hid (HF.out wr hRf);have HRf:=hid hRf;have HK:=hid hk;have HM:=hid hM;clear hRf hk hR hM hls HF;go_wp2_with (go_at_call 49;(with_reducible refine HP.out.mono ?_);rintro e w2 ⟨rfl,hb2⟩;have hM2:=B2.of_block HM.out (hb2.block _ HM.out.lt);have m0:=hM2.at0;have m1:=hM2.at1;have mf0:=hM2.free 0;have mf1:=hM2.free 1;have HM2:=hid hM2;have HRf2:=hid (HRf.out.below hb2);have HK2:=hid (kfd HK.out ((Kept.of_below hb2).none _));clear hb2 hM2);have HR:=hid (HM2.out.set (.int .i64 (X:Int)) (.int .i64 (Y:Int)));refine bodyPost_ret (v:=.agg #[.int .i64 (X:Int),.int .i64 (Y:Int)]) (results_cell_row rfl _ _ (W.heap.size+1) _ _ _ _ rfl HR.out Tryz.underlying68 rfl z1k) rfl ⟨rfl,HRf2.out.of_blocks ((Below.heap_setCell _ _ _ _ (by show F≠W.heap.size+1;omega)).trans (Below.heap_setCell _ _ _ _ (by show F≠W.heap.size+1;omega))) ((Below.heap_setCell _ _ _ _ (by show b≠W.heap.size+1;omega)).trans (Below.heap_setCell _ _ _ _ (by show b≠W.heap.size+1;omega))),(HK2.out.setCell ⟨W.heap.size+1,0,none⟩ (.inr (by simp)) _).setCell ⟨W.heap.size+1,1,none⟩ (.inr (by simp)) _⟩
end Q
end Go.Proofs.YtacelhaidcmbcaaGreatDoor.V.Px
namespace Go.Proofs.YtacelhaidcmbcaaGreatDoor.V.Px
namespace Q
open Go Go.RowKit M
def lvs:List Lv:=[⟨0,0,0⟩,⟨4,8,0⟩,⟨8,16,0⟩,⟨16,32,0⟩,⟨8,16,4⟩,⟨16,32,16⟩,⟨64,128,16⟩,⟨128,128,32⟩,⟨512,258,128⟩,⟨2048,258,258⟩]
def lv(i:Nat):Lv:=lvs.getD i ⟨0,0,0⟩
theorem zi0(w:World)(i:Nat)(hi:i≤9):((w.alloc (.cells #[.int .i64 0,.int .i64 0,.int .i64 0] 60)).alloc (.cells #[.int .i64 0,.int .i64 0,.int .i64 0,.int .i64 4,.int .i64 8,.int .i64 0,.int .i64 8,.int .i64 16,.int .i64 0,.int .i64 16,.int .i64 32,.int .i64 0,.int .i64 8,.int .i64 16,.int .i64 4,.int .i64 16,.int .i64 32,.int .i64 16,.int .i64 64,.int .i64 128,.int .i64 16,.int .i64 128,.int .i64 128,.int .i64 32,.int .i64 512,.int .i64 258,.int .i64 128,.int .i64 2048,.int .i64 258,.int .i64 258] 60)).cell? ⟨w.heap.size+1,i*3,none⟩=some (.int .i64 (lv i).d)∧((w.alloc (.cells #[.int .i64 0,.int .i64 0,.int .i64 0] 60)).alloc (.cells #[.int .i64 0,.int .i64 0,.int .i64 0,.int .i64 4,.int .i64 8,.int .i64 0,.int .i64 8,.int .i64 16,.int .i64 0,.int .i64 16,.int .i64 32,.int .i64 0,.int .i64 8,.int .i64 16,.int .i64 4,.int .i64 16,.int .i64 32,.int .i64 16,.int .i64 64,.int .i64 128,.int .i64 16,.int .i64 128,.int .i64 128,.int .i64 32,.int .i64 512,.int .i64 258,.int .i64 128,.int .i64 2048,.int .i64 258,.int .i64 258] 60)).cell? ⟨w.heap.size+1,i*3+1,none⟩=some (.int .i64 (lv i).n)∧((w.alloc (.cells #[.int .i64 0,.int .i64 0,.int .i64 0] 60)).alloc (.cells #[.int .i64 0,.int .i64 0,.int .i64 0,.int .i64 4,.int .i64 8,.int .i64 0,.int .i64 8,.int .i64 16,.int .i64 0,.int .i64 16,.int .i64 32,.int .i64 0,.int .i64 8,.int .i64 16,.int .i64 4,.int .i64 16,.int .i64 32,.int .i64 16,.int .i64 64,.int .i64 128,.int .i64 16,.int .i64 128,.int .i64 128,.int .i64 32,.int .i64 512,.int .i64 258,.int .i64 128,.int .i64 2048,.int .i64 258,.int .i64 258] 60)).cell? ⟨w.heap.size+1,i*3+2,none⟩=some (.int .i64 (lv i).z):=by
 have h:=new_at (w.alloc (.cells #[.int .i64 0,.int .i64 0,.int .i64 0] 60)) (.cells #[.int .i64 0,.int .i64 0,.int .i64 0,.int .i64 4,.int .i64 8,.int .i64 0,.int .i64 8,.int .i64 16,.int .i64 0,.int .i64 16,.int .i64 32,.int .i64 0,.int .i64 8,.int .i64 16,.int .i64 4,.int .i64 16,.int .i64 32,.int .i64 16,.int .i64 64,.int .i64 128,.int .i64 16,.int .i64 128,.int .i64 128,.int .i64 32,.int .i64 512,.int .i64 258,.int .i64 128,.int .i64 2048,.int .i64 258,.int .i64 258] 60);rw[World.size_alloc] at h;have h9:i=0∨i=1∨i=2∨i=3∨i=4∨i=5∨i=6∨i=7∨i=8∨i=9:=by omega
 simp only[World.cell?,h];rcases h9 with rfl|rfl|rfl|rfl|rfl|rfl|rfl|rfl|rfl|rfl<;>exact⟨rfl,rfl,rfl⟩
theorem z49(i:Nat)(w:World)(hi:i≤9):
 Calls Tryz.prog 24 #[.int .i64 i] w fun e w'=>e=.returned (.tuple #[.agg #[.int .i64 (lv i).d,.int .i64 (lv i).n,.int .i64 (lv i).z],.bool true])∧Below w.heap.size w w':=by
 obtain⟨c0,c1,c2⟩:=zi0 w i hi;obtain⟨d,hd⟩:∃d:Int,((lv i).d:Int)=d:=⟨_,rfl⟩
 obtain⟨n,hn⟩:∃d:Int,((lv i).n:Int)=d:=⟨_,rfl⟩
 obtain⟨z,hz⟩:∃d:Int,((lv i).z:Int)=d:=⟨_,rfl⟩
 rw[hd,hn,hz];rw[hd] at c0;rw[hn] at c1;rw[hz] at c2;have d0:decide ((i:Int)<0)=false:=qF (by omega);have d9:decide (9<(i:Int))=false:=qF (by omega);have d9':decide (9<i)=false:=qF (by omega);clear hd hn hz;go_enter Tryz.func24,Tryz.ntmps24;go_wp2_with fail;clear c0 c1 c2;generalize Obj.cells #[Value.int IntKind.i64 0,Value.int IntKind.i64 0,Value.int IntKind.i64 0,Value.int IntKind.i64 4,Value.int IntKind.i64 8,Value.int IntKind.i64 0,Value.int IntKind.i64 8,Value.int IntKind.i64 16,Value.int IntKind.i64 0,Value.int IntKind.i64 16,Value.int IntKind.i64 32,Value.int IntKind.i64 0,Value.int IntKind.i64 8,Value.int IntKind.i64 16,Value.int IntKind.i64 4,Value.int IntKind.i64 16,Value.int IntKind.i64 32,Value.int IntKind.i64 16,Value.int IntKind.i64 64,Value.int IntKind.i64 128,Value.int IntKind.i64 16,Value.int IntKind.i64 128,Value.int IntKind.i64 128,Value.int IntKind.i64 32,Value.int IntKind.i64 512,Value.int IntKind.i64 258,Value.int IntKind.i64 128,Value.int IntKind.i64 2048,Value.int IntKind.i64 258,Value.int IntKind.i64 258] 60 =O;have hB:B3 ((w.alloc (.cells #[.int .i64 d,.int .i64 n,.int .i64 z] 60)).alloc O) 60 w.heap.size (.int .i64 d) (.int .i64 n) (.int .i64 z):=old_at _ (new_at _ _);have h0:=hB.at0;have h1:=hB.at1;have h2:=hB.at2;refine bodyPost_ret (v:=.tuple #[.agg #[.int .i64 d,.int .i64 n,.int .i64 z],.bool true]) ?_ rfl ⟨rfl,(qL).alloc (by simp) _⟩;simp[results,Tryz.f24,go_sem,h0,h1,h2]
theorem zah(x:Int)(w:World)(hx:x<0∨9<x):
 Calls Tryz.prog 24 #[.int .i64 x] w fun e w'=>e=.returned (.tuple #[.agg #[.int .i64 0,.int .i64 0,.int .i64 0],.bool false])∧Below w.heap.size w w':=by
 by_cases h0:x<0
 · have d0:decide (x<0)=true:=q9T h0
   clear hx h0;go_enter Tryz.func24,Tryz.ntmps24;go_wp2_with fail;generalize Obj.cells #[Value.int IntKind.i64 0,Value.int IntKind.i64 0,Value.int IntKind.i64 0,Value.int IntKind.i64 4,Value.int IntKind.i64 8,Value.int IntKind.i64 0,Value.int IntKind.i64 8,Value.int IntKind.i64 16,Value.int IntKind.i64 0,Value.int IntKind.i64 16,Value.int IntKind.i64 32,Value.int IntKind.i64 0,Value.int IntKind.i64 8,Value.int IntKind.i64 16,Value.int IntKind.i64 4,Value.int IntKind.i64 16,Value.int IntKind.i64 32,Value.int IntKind.i64 16,Value.int IntKind.i64 64,Value.int IntKind.i64 128,Value.int IntKind.i64 16,Value.int IntKind.i64 128,Value.int IntKind.i64 128,Value.int IntKind.i64 32,Value.int IntKind.i64 512,Value.int IntKind.i64 258,Value.int IntKind.i64 128,Value.int IntKind.i64 2048,Value.int IntKind.i64 258,Value.int IntKind.i64 258] 60 =O;have hB:B3 ((w.alloc (.cells #[.int .i64 0,.int .i64 0,.int .i64 0] 60)).alloc O) 60 w.heap.size (.int .i64 0) (.int .i64 0) (.int .i64 0):=old_at _ (new_at _ _);have h0:=hB.at0;have h1:=hB.at1;have h2:=hB.at2;refine bodyPost_ret (v:=.tuple #[.agg #[.int .i64 0,.int .i64 0,.int .i64 0],.bool false]) ?_ rfl ⟨rfl,(qL).alloc (by simp) _⟩;simp[results,Tryz.f24,go_sem,h0,h1,h2]
 · have d0:decide (x<0)=false:=qF h0
   have d9:decide (9<x)=true:=q9T (by omega);clear hx h0;go_enter Tryz.func24,Tryz.ntmps24;go_wp2_with fail;generalize Obj.cells #[Value.int IntKind.i64 0,Value.int IntKind.i64 0,Value.int IntKind.i64 0,Value.int IntKind.i64 4,Value.int IntKind.i64 8,Value.int IntKind.i64 0,Value.int IntKind.i64 8,Value.int IntKind.i64 16,Value.int IntKind.i64 0,Value.int IntKind.i64 16,Value.int IntKind.i64 32,Value.int IntKind.i64 0,Value.int IntKind.i64 8,Value.int IntKind.i64 16,Value.int IntKind.i64 4,Value.int IntKind.i64 16,Value.int IntKind.i64 32,Value.int IntKind.i64 16,Value.int IntKind.i64 64,Value.int IntKind.i64 128,Value.int IntKind.i64 16,Value.int IntKind.i64 128,Value.int IntKind.i64 128,Value.int IntKind.i64 32,Value.int IntKind.i64 512,Value.int IntKind.i64 258,Value.int IntKind.i64 128,Value.int IntKind.i64 2048,Value.int IntKind.i64 258,Value.int IntKind.i64 258] 60 =O;have hB:B3 ((w.alloc (.cells #[.int .i64 0,.int .i64 0,.int .i64 0] 60)).alloc O) 60 w.heap.size (.int .i64 0) (.int .i64 0) (.int .i64 0):=old_at _ (new_at _ _);have h0:=hB.at0;have h1:=hB.at1;have h2:=hB.at2;refine bodyPost_ret (v:=.tuple #[.agg #[.int .i64 0,.int .i64 0,.int .i64 0],.bool false]) ?_ rfl ⟨rfl,(qL).alloc (by simp) _⟩;simp[results,Tryz.f24,go_sem,h0,h1,h2]
end Q
end Go.Proofs.YtacelhaidcmbcaaGreatDoor.V.Px
namespace Go.Proofs.YtacelhaidcmbcaaGreatDoor.V.Px
open Go.Lib (hid)
namespace Q
open Go Go.RowKit M
def clq:List Tk→List Value
 |[]=> []
 |t::l=> .int .u8 t.l::.int .i64 t.n::.int .i64 t.d::clq l
theorem z4k:∀l r,clq (l++r)=clq l++clq r
 |[],_=>rfl
 |t::l,r=>by simp only[List.cons_append,clq];rw[z4k l r]
def Owq(B:Nat)(w:World)(v:Value)(L:List Tk):Prop:=w.ownsRow B 64 3 v L.length (clq L)
section
variable {B:Nat} {w w':World} {v:Value} {L:List Tk}
theorem Owq.nil(B:Nat)(w:World):Owq B w (.slice none 0 0) []:=World.ownsRow_nil w B _ 3
theorem Owq.alloc(h:Owq B w v L)(o:Obj):Owq B (w.alloc o) v L:=World.ownsRow.alloc h o
theorem Owq.at(h:Owq B w v L)(e:∀g,v.ownBlock=some g→w'.heap[g]? =w.heap[g]?):Owq B w' v L:=z0c h e
theorem Owq.lt(h:Owq B w v L):∀g,v.ownBlock=some g→B≤g∧g<w.heap.size:=World.ownsRow.lt h
end
theorem zfA:(Tryz.prog.info? 64).map (fun i=>(i.zero,i.size,i.bytes))=some (some (.agg #[.int .u8 0,.int .i64 0,.int .i64 0]),3,24):=by kernel_rfl
theorem wpList_tq{ops:Array Oper}{rest:List Oper}{o:Oper}{a:Act}{w:World}{Q:Exit→Act→World→Prop}(hgd:o.guard=none)(s x:Operand)
 (ho:o.op=.call {callee:=.builtin .append,args:= #[s,x],argTypes:= #[29,29]}) (B:Nat) (v:Value) (L:List Tk) (hs:a.eval s=v) (h:Owq B w v L) (b c:Nat) (l n d:Int)
 (hx:a.eval x=.slice (some ⟨b,0,none⟩) 1 c) (hc:w.cell? ⟨b,0,none⟩=some (.int .u8 l)∧w.cell? ⟨b,1,none⟩=some (.int .i64 n)∧w.cell? ⟨b,2,none⟩=some (.int .i64 d)) (hL:L.length≤3000000) (hB:B≤w.heap.size)
 (hK:∀v' w',Owq B w' v' (L++[⟨l,n,d⟩])→w.grownBy w' v.ownBlock→Below B w w'→wpList Tryz.prog ops Q rest (a.put o.dst v') w'):wpList Tryz.prog ops Q (o::rest) a w:=
 wpList_plain hgd fun K hK'=>by
  obtain⟨i,h1,h2,h3,h4⟩:=info_of zfA
  obtain⟨v',w',r1,r2,r3,_⟩:=run_append_own (P:= Tryz.prog) w B 29 o.type 64 i _ 3 24 Tryz.underlying29 h1 h2 h3 h4 rfl (by decide) v L.length (clq L) h ⟨b,0,none⟩ 1 c (clq [⟨l,n,d⟩]) rfl
   (fun j u hu=>by
    rw[cadd_at,Nat.zero_add]
    match j,hu with
    |0,hu=>simp[clq] at hu;subst hu;exact hc.1
    |1,hu=>simp[clq] at hu;subst hu;exact hc.2.1
    |2,hu=>simp[clq] at hu;subst hu;exact hc.2.2
    |j+3,hu=>simp[clq] at hu) (by intro u hu;simp[clq] at hu;rcases hu with rfl|rfl|rfl<;>rfl) (by unfold maxLen;omega) (by omega) hB
  unfold Oper.wp execOp;simp only[ho,resolve,invoke,builtin,Sem.run_bind,Sem.run_pure,Result.andThen_ok,List.map_toArray,List.map_cons,List.map_nil,hs,hx,r1];refine hK' _ _ (hK v' w' ?_ r3 ((Below.refl _ w).grown r3 hB (fun k hk=>(World.ownsRow.lt h k hk).1)));unfold Owq;rw[qA,z4k];exact r2
def TkP(W:World)(L:List Tk)(e:Ending)(w':World):Prop:=∃v,e=.returned (.tuple #[v,.int .i64 0])∧Owq W.heap.size w' v L∧Below W.heap.size W w'
def lits(s:ByteArray)(j:Nat):List Tk:=(List.range j).map (lit s)
theorem zbe(s:ByteArray)(j:Nat):lits s (j+1)=lits s j++[lit s j]:=by simp[lits,List.range_succ]
theorem lits_length(s:ByteArray)(j:Nat):(lits s j).length=j:=by simp[lits]
theorem rtokens_no(dict text:ByteArray)(x:Int)(W:World)(hx:x<0∨9<x):
 Calls Tryz.prog 12 #[.string dict,.string text,.int .i64 x] W fun e w'=>e=.returned (.tuple #[.slice none 0 0,.int .i64 2])∧Below W.heap.size W w':=by
 have HL:=hid (fun w=>zah x w hx);clear hx;go_enter Tryz.func12,Tryz.ntmps12;go_wp2_with (go_at_call 24;(with_reducible refine(HL.out _).mono ?_);rintro e w1 ⟨rfl,b1⟩;have B1:=hid b1;clear b1);go_ret2;exact⟨rfl,B1.out.alloc B1.out.size _⟩
theorem rtokens_zero(dict text:ByteArray)(W:World)(ht:text.size≤1000000):
 Calls Tryz.prog 12 #[.string dict,.string text,.int .i64 0] W (TkP W (lits text text.size)):=by
 have HL:=hid (fun w=>z49 0 w (by omega));have dT:decide (1048576<(text.size:Int))=false:=qF (by omega);have dT':decide (1048576<text.size)=false:=qF (by omega);go_enter Tryz.func12,Tryz.ntmps12;go_wp2_with (go_at_call 24;(refine(HL.out _).mono ?_);rintro e w1 ⟨rfl,b1⟩;have B1:=hid b1;clear b1);have HB0:=hid (show Below W.heap.size W (w1.alloc (.cells #[.int .i64 (lv 0).d,.int .i64 (lv 0).n,.int .i64 (lv 0).z] 60)) from B1.out.alloc B1.out.size _);clear dT dT'
 go_loopw [10,11] (fun v i wr=> ∃j:Nat,j≤text.size∧i=.int .i64 j∧Owq W.heap.size wr v (lits text j)∧Below W.heap.size W wr) (fun _ i _=>text.size - (intOf i).toNat)
 case atStart=>exact⟨0,qZ,rfl,Owq.nil _ _,HB0.out⟩
 case round=>
  obtain⟨j,hj,rfl,hO,hb⟩:=hrel;have HO:=hid hO;have HB:=hid hb;clear hO hb;by_cases hlt:j<text.size
  · have d1:decide ((j:Int)<(text.size:Int))=true:=q9T (by omega)
    have d1':decide (j<text.size)=true:=q9T hlt;have hbt:=hid (z0H hlt);go_wp2_with (at_builtin;refine wpList_tq rfl (.tmp 35) (.tmp 40) rfl W.heap.size _ (lits text j) rfl (HO.out.alloc _) wr.heap.size 1 ((text[j]'hlt).toNat:Int) 0 0 rfl ⟨by simp,by simp,by simp⟩ (by rw[lits_length];omega) (by have:=HB.out.size;simp;omega) ?_;intro v' w' o' g' b';have HO2:=hid o';have HB2:=hid ((HB.out.alloc HB.out.size _).trans b');clear o' b' g');go_roundw
    case rel=>exact⟨j+1,by omega,by go_num,by rw[zbe];have:=HO2.out;rw[hbt.out] at this;exact this,HB2.out⟩
    case measure=>(simp[intOf];try omega)
  · have d1:decide ((j:Int)<(text.size:Int))=false:=qF (by omega)
    have d1':decide (j<text.size)=false:=qF hlt;have hjn:j=text.size:=by omega
    have HJ:=hid hjn;clear hjn;go_wp2_with fail;go_ret2;exact⟨_,rfl,by rw[←HJ.out];exact HO.out,HB.out⟩
end Q
end Go.Proofs.YtacelhaidcmbcaaGreatDoor.V.Px
namespace Go.Proofs.YtacelhaidcmbcaaGreatDoor.V.Px
open Go.Lib (hid)
namespace Q
open Go Go.RowKit M
theorem Owq.ty{B:Nat}{w:World}{v:Value}{L:List Tk}(h:Owq B w v L):∀g,v.ownBlock=some g→∃cs,w.heap[g]? =some (.cells cs 64 (0,0)):=by
 intro g hg;rcases h.2 with⟨rfl,_⟩|⟨g',cap,cur,rfl,_,hh,_⟩
 · simp[Value.ownBlock] at hg
 · simp[Value.ownBlock] at hg
   subst hg;exact⟨cur,hh⟩
theorem ty_ne{w:World}{g f:Nat}{cs cs':Array Value}{T T':TypeId}{z z':Nat×Nat}(h:w.heap[g]? =some (.cells cs T z))(h':w.heap[f]? =some (.cells cs' T' z'))(hne:T≠T'):g≠f:=fun e=>by
 subst e;rw[h] at h';injection h' with e1
 injection e1 with _ e2 _
 exact hne e2
structure S10(W wr:World)(F b Rr:Nat)(s:ByteArray)(r:Lv)(v:Value)(L:List Tk)(k:Nat):Prop where
 rf:Rf wr W.heap.size F b s k
 ow:Owq W.heap.size wr v L
 row:B3 wr 60 Rr (.int .i64 r.d) (.int .i64 r.n) (.int .i64 r.z)
 bl:Below W.heap.size W wr
 rF:Rr≠F
 rb:Rr≠b
section
variable {W wr w':World} {F b Rr k:Nat} {s:ByteArray} {r:Lv} {v v':Value} {L L':List Tk}
theorem S10.apart(h:S10 W wr F b Rr s r v L k):∀g,v.ownBlock=some g→g≠F∧g≠b∧g≠Rr:=fun g hg=>by
 obtain⟨cs,hc⟩:=h.ow.ty g hg;obtain⟨cur,hb,_⟩:=h.rf.row;exact⟨ty_ne hc h.rf.fd (by decide),ty_ne hc hb (by decide),ty_ne hc h.row (by decide)⟩
theorem S10.below(h:S10 W wr F b Rr s r v L k)(hb:Below wr.heap.size wr w'):S10 W w' F b Rr s r v L k:=
 ⟨h.rf.below hb,h.ow.at fun g hg=>hb.block g (h.ow.lt g hg).2,h.row.of_block (hb.block _ h.row.lt),h.bl.trans (hb.mono h.bl.size),h.rF,h.rb⟩
theorem S10.alloc(h:S10 W wr F b Rr s r v L k)(o:Obj):S10 W (wr.alloc o) F b Rr s r v L k:=h.below ((Below.refl _ _).alloc qR o)
theorem S10.app(h:S10 W wr F b Rr s r v L k)(hg:wr.grownBy w' v.ownBlock)(ho:Owq W.heap.size w' v' L')(hb:Below W.heap.size wr w'):S10 W w' F b Rr s r v' L' k:=by
 have ha:=h.apart;have hF:v.ownBlock≠some F:=fun e=>(ha F e).1 rfl
 have hB:v.ownBlock≠some b:=fun e=>(ha b e).2.1 rfl
 have hR:v.ownBlock≠some Rr:=fun e=>(ha Rr e).2.2 rfl
 exact⟨h.rf.of_blocks (hg.block F h.rf.fd.lt fun e=>hF e.symm) (hg.block b (World.rowIs.lt h.rf.row) fun e=>hB e.symm),ho,h.row.of_block (hg.block Rr h.row.lt fun e=>hR e.symm),h.bl.trans hb,h.rF,h.rb⟩
theorem S10.look{t:Nat}(h:S10 W wr F b Rr s r v L k)(hr:Rf w' W.heap.size F b s t)(hk:Kept (FdS F b) wr w'):S10 W w' F b Rr s r v L t:=
 ⟨hr,h.ow.at fun g hg=>hk.block g (h.ow.lt g hg).2 (fun q=>by have:=h.apart g hg;rcases q with q|q;exact this.1 q;exact this.2.1 q),h.row.of_block (hk.block _ h.row.lt (fun q=>by rcases q with q|q;exact h.rF q;exact h.rb q)),h.bl.trans (hk.below h.bl.size (fun j hj=>by rcases hj with hj|hj;rw[hj];exact h.rf.hF;rw[hj];exact h.rf.hb)),h.rF,h.rb⟩
theorem S10.mb{Mb:Nat}{x y:Value}(h:S10 W wr F b Rr s r v L k)(hM:B2 wr 68 Mb x y):Mb≠F∧Mb≠b∧Mb≠Rr∧v.ownBlock≠some Mb:=by
 obtain⟨cur,hb,_⟩:=h.rf.row;refine⟨ty_ne hM h.rf.fd (by decide),ty_ne hM hb (by decide),ty_ne hM h.row (by decide),fun e=> ?_⟩;obtain⟨cs,hc⟩:=h.ow.ty Mb e;exact ty_ne hc hM (by decide) rfl
theorem S10.set{Mb:Nat}{x y u z:Value}(h:S10 W wr F b Rr s r v L k)(hM:B2 wr 68 Mb x y)(hW:W.heap.size≤Mb):S10 W ((wr.setCell ⟨Mb,0,none⟩ u).setCell ⟨Mb,1,none⟩ z) F b Rr s r v L k:=by
 obtain⟨h1,h2,h3,h4⟩:=h.mb hM;have e:∀g,g≠Mb→((wr.setCell ⟨Mb,0,none⟩ u).setCell ⟨Mb,1,none⟩ z).heap[g]? =wr.heap[g]? :=fun g hg=>(Below.heap_setCell _ _ _ _ hg).trans (Below.heap_setCell _ _ _ _ hg)
 exact⟨h.rf.of_blocks (e F h1.symm) (e b h2.symm),h.ow.at fun g hg=>e g (fun q=>h4 (by rw[hg,q])),h.row.of_block (e Rr h3.symm),(h.bl.setCell (p:=⟨Mb,0,none⟩) hW _).setCell (p:=⟨Mb,1,none⟩) hW _,h.rF,h.rb⟩
theorem B2.apart{Mb:Nat}{x y:Value}(h:S10 W wr F b Rr s r v L k)(hM:B2 wr 68 Mb x y)(hg:wr.grownBy w' v.ownBlock):B2 w' 68 Mb x y:=
 hM.of_block (hg.block Mb hM.lt fun e=>(h.mb hM).2.2.2 e.symm)
theorem B2.keptFd{Mb:Nat}{x y:Value}(h:S10 W wr F b Rr s r v L k)(hM:B2 wr 68 Mb x y)(hk:Kept (FdS F b) wr w'):B2 w' 68 Mb x y:=
 hM.of_block (hk.block Mb hM.lt fun q=>by rcases q with q|q;exact(h.mb hM).1 q;exact(h.mb hM).2.1 q)
end
theorem lv_le(i:Nat)(hi:i≤9):(lv i).d≤1000000∧(lv i).n≤258∧(lv i).z≤258:=by
 have h9:i=0∨i=1∨i=2∨i=3∨i=4∨i=5∨i=6∨i=7∨i=8∨i=9:=by omega
 rcases h9 with rfl|rfl|rfl|rfl|rfl|rfl|rfl|rfl|rfl|rfl<;>decide
theorem rtokens_any(dict text:ByteArray)(i:Nat)(W:World)(hi:1≤i∧i≤9)(hd:dict.size≤32768)(ht:text.size≤1000000):
 Calls Tryz.prog 12 #[.string dict,.string text,.int .i64 i] W (TkP W (G (dict++text) (lv i) dict.size (0,0))):=by
 have HL:=hid (fun w=>z49 i w hi.2);obtain⟨hl1,hl2,hl3⟩:=lv_le i hi.2;obtain⟨r,hr⟩:∃r,lv i=r:=⟨_,rfl⟩
 rw[hr] at HL hl1 hl2 hl3 ⊢;have hsz:(dict++text).size=dict.size+text.size:=ByteArray.size_append;have s1:dict.size+text.size≤9223372036854775807:=by omega
 have dT:decide (1048576<(text.size:Int))=false:=qF (by omega);have dT':decide (1048576<text.size)=false:=qF (by omega);have dD:decide (32768<(dict.size:Int))=false:=qF (by omega);have dD':decide (32768<dict.size)=false:=qF (by omega);have di:((i:Int)==0)=false:=by rw[qN];omega
 have di2:(i==0)=false:=by rw[qN];omega
 have di3:¬i=0:=by omega
 obtain⟨s,hs⟩:∃s,dict++text=s:=⟨_,rfl⟩
 obtain⟨q,hq⟩:∃q,dict.size=q:=⟨_,rfl⟩
 have hq1:(dict.size:Int)=(q:Int):=by rw[hq]
 rw[hs] at hsz ⊢;rw[hq];have hs2:s.size≤2000000:=by omega
 have hqs:q≤s.size:=by omega
 obtain⟨T,hT⟩:∃T,G s r q (0,0)=T:=⟨_,rfl⟩
 rw[hT];have HTL:=hid (show T.length≤2000000 from by rw[←hT];have:=G_len s r q (0,0) (fun q=>absurd rfl q);omega);have HT:=hid hT;have HQ:=hid hq;have HSZ:=hid hsz;clear hT hr hq hsz;go_enter Tryz.func12,Tryz.ntmps12
 go_wp2_with (first
  |(go_at_call 24;(with_reducible refine(HL.out _).mono ?_);rintro e w1 ⟨rfl,b1⟩;have B1:=hid b1;clear b1)
  |(go_at_call 25;(with_reducible refine(zd6 s _ hs2).mono ?_);rintro e w3 ⟨rfl,r3,b3⟩;have R3:=hid r3;have B3':=hid b3;clear r3 b3))
 have HS0:=hid (show S10 W w3 (w1.heap.size+1+1) (w1.heap.size+1) w1.heap.size s r (.slice none 0 0) [] 0 from by
  have h1:=R3.out;have h2:=B3'.out;rw[World.size_alloc] at h1 h2;have hb3:Below W.heap.size W w3:=(B1.out.alloc B1.out.size _).trans (h2.mono (by have:=B1.out.size;omega));exact⟨h1.base (by have:=B1.out.size;omega),Owq.nil _ _,(h2.block w1.heap.size (by omega)).trans (new_at _ _),hb3,by omega,by omega⟩)
 clear R3 B3' dT dT' dD dD' di di2 di3 s1 HL
 go_loopw [10,14] (fun v x wr=> ∃ (k k':Nat) (L:List Tk),k≤s.size∧x=.int .i64 k∧k'≤k∧S10 W wr (w1.heap.size+1+1) (w1.heap.size+1) w1.heap.size s r v L k'∧L++G s r k (0,0)=T) (fun _ x _=>s.size - (intOf x).toNat)
 case atStart=>exact⟨q,0,[],hqs,rfl,qZ,HS0.out,HT.out⟩
 case round=>
  obtain⟨k,k',L,hk,rfl,hk',hS,hTt⟩:=hrel;have hLl:L.length≤2000000:=by have:=HTL.out;rw[←hTt,qA] at this;omega
  by_cases hlt:k<s.size
  · have d1:decide ((k:Int)<(s.size:Int))=true:=q9T (by omega)
    have d1':decide (k<s.size)=true:=q9T hlt;have a0:=hS.row.at0;have a1:=hS.row.at1;have a2:=hS.row.at2;have hlk:=look_any hS.rf r k 2 hk' hk hl1;obtain⟨X,Y,hXY⟩:∃X Y,mt s r k 2=(X,Y):=⟨_,_,rfl⟩
    rw[hXY] at hlk;have HLk:=hid hlk;have HS:=hid hS;have HTt:=hid hTt;have HXY:=hid hXY;have hbt:=hid (z0H hlt);clear hlk hS hTt hXY;by_cases hX:X=0
    · have e0:((X:Int)==0)=true:=by rw[beq_iff_eq];omega
      have e0':(X==0)=true:=by rw[beq_iff_eq];exact hX
      have hG:=G_lit (s:=s) (r:=r) (k:=k) (m:=(0,0)) hlt rfl (by rw[HXY.out];exact hX);have HG:=hid (show(L++[lit s k])++G s r (k+1) (0,0)=T from by rw[qD];have:=HTt.out;rw[hG] at this;exact this);clear hG hX
      go_wp2_with (first
       |(go_at_call 26;(with_reducible refine HLk.out.mono ?_);rintro e w4 ⟨rfl,r4,k4⟩;have HS4:=hid (HS.out.look r4 k4);clear r4 k4)
       |(at_builtin;refine wpList_tq rfl (.tmp 69) (.tmp 74) rfl W.heap.size _ L rfl ((HS4.out.alloc (.cells #[.int .i64 X,.int .i64 Y] 68)).ow.alloc _) (w4.heap.size+1) 1 ((s[k]'hlt).toNat:Int) 0 0 rfl ⟨by simp,by simp,by simp⟩ (by omega) (by have:=HS4.out.bl.size;simp;omega) ?_;intro v' w' o' g' b';have HS5:=hid (((HS4.out.alloc (.cells #[.int .i64 X,.int .i64 Y] 68)).alloc _).app g' o' b');clear o' g' b'))
      go_roundw
      case rel=>exact⟨k+1,k,L++[lit s k],by omega,by go_num,by omega,by have:=HS5.out;rw[hbt.out] at this;exact this,HG.out⟩
      case measure=>(simp[intOf];try omega)
    · have hMt:=(mt_is (s:=s) (r:=r) (k:=k) (over:=2) (by rw[HXY.out];exact hX)).1
      rw[HXY.out] at hMt;have hG:=G_look (s:=s) (r:=r) (k:=k) (m:=(0,0)) hlt rfl (by rw[HXY.out];exact hX);rw[HXY.out] at hG;have HG0:=hid (show L++G s r k (X,Y)=T from by rw[←hG];exact HTt.out);have HMt0:=hid hMt;have e0:((X:Int)==0)=false:=by rw[qN];omega
      have e0':(X==0)=false:=by rw[qN];exact hX
      clear hG hMt hX;go_wp2_with (go_at_call 26;(with_reducible refine HLk.out.mono ?_);rintro e w4 ⟨rfl,r4,k4⟩;have HS4:=hid ((HS.out.look r4 k4).alloc (.cells #[.int .i64 X,.int .i64 Y] 68));have HB4:=hid (show B2 (w4.alloc (.cells #[.int .i64 X,.int .i64 Y] 68)) 68 w4.heap.size (.int .i64 X) (.int .i64 Y) from new_at _ _);have HWM:=hid (show W.heap.size≤w4.heap.size from(HS.out.look r4 k4).bl.size);obtain⟨Mb,hMb⟩:∃Mb,w4.heap.size=Mb:=⟨_,rfl⟩;clear r4 k4);clear a0 a1 a2
      go_loopw [10,14] (fun v x wr=> ∃ (k2 k3 m1 m2:Nat) (L2:List Tk),k2<s.size∧x=.int .i64 k2∧k3≤k2+1∧S10 W wr (w1.heap.size+1+1) (w1.heap.size+1) w1.heap.size s r v L2 k3∧B2 wr 68 Mb (.int .i64 m1) (.int .i64 m2)∧Mt s k2 (m1,m2)∧k≤k2∧L2++G s r k2 (m1,m2)=T) (fun _ x _=>s.size - (intOf x).toNat)
      case atStart=>exact⟨k,k,X,Y,L,hlt,rfl,by omega,HS4.out,by have:=HB4.out;rw[hMb] at this;exact this,HMt0.out,qR,HG0.out⟩
      case round=>
       obtain⟨k2,k3,m1,m2,L2,hk2,rfl,hk3,hSi,hMi,hMt,hkk,hTi⟩:=hrel;have hW4:=HWM.out;rw[hMb] at hW4;have hL2:L2.length≤2000000:=by have:=HTL.out;rw[←hTi,qA] at this;omega
       have hm3:3≤m1:=hMt.len.1;have hm258:m1≤258:=hMt.len.2;have hmf:k2+m1≤s.size:=hMt.fits;have a0:=hSi.row.at0;have a1:=hSi.row.at1;have a2:=hSi.row.at2;have c0:=hMi.at0;have c1:=hMi.at1;have cf0:=hMi.free 0;have cf1:=hMi.free 1;have HSi:=hid hSi;have HM:=hid hMi;have HTi:=hid hTi;have hk2b:k2≤2000000:=by omega
       obtain⟨kn,hkn⟩:∃kn,k2+1=kn:=⟨_,rfl⟩
       have ekn:(k2:Int)+1=(kn:Int):=by omega
       have hm0:(m1,m2).1≠0:=by simp only;omega
       by_cases hz:m1<r.z
       · have z1:decide ((m1:Int)<(r.z:Int))=true:=q9T (by omega)
         have z1':decide (m1<r.z)=true:=q9T hz;by_cases h1:kn<s.size
         · have z2:decide ((kn:Int)<(s.size:Int))=true:=q9T (by omega)
           have z2':decide (kn<s.size)=true:=q9T h1;have hlk2:=look_any hSi.rf r kn (m1:Int) (by omega) (by omega) hl1;obtain⟨X2,Y2,hXY2⟩:∃X Y,mt s r kn (m1:Int)=(X,Y):=⟨_,_,rfl⟩
           rw[hXY2] at hlk2;have HLk2:=hid hlk2;have HXY2:=hid hXY2;have hcond:(m1,m2).1<r.z∧k2+1<s.size:=⟨hz,by omega⟩;by_cases hX2:X2=0
           · have q0:((X2:Int)==0)=true:=by rw[beq_iff_eq];omega
             have q0':(X2==0)=true:=by rw[beq_iff_eq];exact hX2
             have hG2:=G_stay (s:=s) (r:=r) (k:=k2) (m:=(m1,m2)) hk2 hm0 hcond (by rw[hkn];show(mt s r kn (m1:Int)).1=0;rw[hXY2];exact hX2);have HG:=hid (show(L2++[mtk (m1,m2)])++G s r (k2+m1) (0,0)=T from by rw[qD];have:=HTi.out;rw[hG2] at this;exact this);have HBd:=hid (And.intro hk2 (And.intro hmf (And.intro hk3 hkn)));clear hG2 hX2 hcond hlk2 hXY2 hSi hMi hTi hMt hm0 hz h1 hk2 hmf hkn
             go_wp2_with (first
              |(go_at_call 26;(with_reducible refine HLk2.out.mono ?_);rintro e w5 ⟨rfl,r5,k5⟩;have hB5:=B2.keptFd HSi.out HM.out k5;have HS5:=hid (HSi.out.look r5 k5);have n0:=hB5.at0;have n1:=hB5.at1;have na0:∀o:Obj,(w5.alloc o).cell? ⟨Mb,0,none⟩=some (.int .i64 m1):=fun o=>B2.at0 (hB5.of_block (Below.heap_alloc _ o _ hB5.lt));have na1:∀o:Obj,(w5.alloc o).cell? ⟨Mb,1,none⟩=some (.int .i64 m2):=fun o=>B2.at1 (hB5.of_block (Below.heap_alloc _ o _ hB5.lt));have HB5:=hid hB5;clear r5 k5 hB5)
              |(at_builtin;refine wpList_tq rfl (.tmp 110) (.tmp 116) rfl W.heap.size _ L2 rfl ((HS5.out.alloc (.cells #[.int .i64 X2,.int .i64 Y2] 68)).ow.alloc _) (w5.heap.size+1) 1 0 (m1:Int) (m2:Int) rfl ⟨by simp,by simp,by simp⟩ (by omega) (by have:=(HS5.out.alloc (.cells #[.int .i64 X2,.int .i64 Y2] 68)).bl.size;simp at this ⊢;omega) ?_;intro v' w' o' g' b';have hs5:=(HS5.out.alloc (.cells #[.int .i64 X2,.int .i64 Y2] 68)).alloc (.cells #[.int .u8 0,.int .i64 (m1:Int),.int .i64 (m2:Int)] 64);have hm6:=B2.apart hs5 (Mb:=Mb) (x:=.int .i64 m1) (y:=.int .i64 m2) (old_at _ (old_at _ HB5.out)) g';have t0:=hm6.at0;clear hm6;have HS6:=hid (((HS5.out.alloc (.cells #[.int .i64 X2,.int .i64 Y2] 68)).alloc _).app g' o' b');clear o' g' b' hs5 na0 na1))
             go_roundw
             case rel=>exact⟨k2+m1,kn,L2++[mtk (m1,m2)],HBd.out.2.1,by go_num,by have:=HBd.out;omega,HS6.out,HG.out⟩
             case measure=>(have hbd:=HBd.out;have hbd1:=hbd.1;have hbd2:=hbd.2.1;clear hbd;simp[intOf];try omega)
           · have q0:((X2:Int)==0)=false:=by rw[qN];omega
             have q0':(X2==0)=false:=by rw[qN];exact hX2
             have hbt2:=hid (z0H hk2);have hG2:=G_lazy (s:=s) (r:=r) (k:=k2) (m:=(m1,m2)) hk2 hm0 hcond (by rw[hkn];show(mt s r kn (m1:Int)).1≠0;rw[hXY2];exact hX2);rw[hkn] at hG2;have hG3:G s r k2 (m1,m2)=lit s k2::G s r kn (X2,Y2):=by rw[hG2];show _::G s r kn (mt s r kn (m1:Int))=_;rw[hXY2]
             have HG:=hid (show(L2++[lit s k2])++G s r kn (X2,Y2)=T from by rw[qD];have:=HTi.out;rw[hG3] at this;exact this)
             have HMt2:=hid (show Mt s kn (X2,Y2) from by
              have:=(mt_is (s:=s) (r:=r) (k:=kn) (over:=(m1:Int)) (by rw[hXY2];exact hX2)).1;rw[hXY2] at this;exact this)
             clear hG2 hG3 hX2 hcond hlk2 hXY2 hSi hMi hTi hMt hm0 hz
             go_wp2_with (first
              |(go_at_call 26;(with_reducible refine HLk2.out.mono ?_);rintro e w5 ⟨rfl,r5,k5⟩;have hB5:=B2.keptFd HSi.out HM.out k5;have HS5:=hid (HSi.out.look r5 k5);have n0:=hB5.at0;have n1:=hB5.at1;have na0:∀o:Obj,(w5.alloc o).cell? ⟨Mb,0,none⟩=some (.int .i64 m1):=fun o=>B2.at0 (hB5.of_block (Below.heap_alloc _ o _ hB5.lt));have na1:∀o:Obj,(w5.alloc o).cell? ⟨Mb,1,none⟩=some (.int .i64 m2):=fun o=>B2.at1 (hB5.of_block (Below.heap_alloc _ o _ hB5.lt));have HB5:=hid hB5;clear r5 k5 hB5)
              |(at_builtin;refine wpList_tq rfl (.tmp 100) (.tmp 105) rfl W.heap.size _ L2 rfl ((HS5.out.alloc (.cells #[.int .i64 X2,.int .i64 Y2] 68)).ow.alloc _) (w5.heap.size+1) 1 ((s[k2]'hk2).toNat:Int) 0 0 rfl ⟨by simp,by simp,by simp⟩ (by omega) (by have:=HS5.out.bl.size;simp;omega) ?_;intro v' w' o' g' b';have hs6:=((HS5.out.alloc (.cells #[.int .i64 X2,.int .i64 Y2] 68)).alloc (.cells #[.int .u8 ((s[k2]'hk2).toNat:Int),.int .i64 0,.int .i64 0] 64));have hn6:=B2.apart hs6 (Mb:=w5.heap.size) (x:=.int .i64 X2) (y:=.int .i64 Y2) (old_at _ (new_at w5 _)) g';have hm6:=B2.apart hs6 (Mb:=Mb) (x:=.int .i64 m1) (y:=.int .i64 m2) (old_at _ (old_at _ HB5.out)) g';have u0:=hn6.at0;have u1:=hn6.at1;have t0:=hm6.at0;have t1:=hm6.at1;have tf0:=hm6.free 0;have tf1:=hm6.free 1;have HM6:=hid hm6;have HS6:=hid (hs6.app g' o' b');clear o' g' b' hs6 hn6 hm6 na0 na1))
             go_roundw
             case rel=>exact⟨kn,kn,X2,Y2,L2++[lit s k2],h1,rfl,by omega,by have:=HS6.out;rw[hbt2.out] at this;exact this.set HM6.out hW4,HM6.out.set _ _,HMt2.out,by omega,HG.out⟩
             case measure=>(simp[intOf];try omega)
         · have z2:decide ((kn:Int)<(s.size:Int))=false:=qF (by omega)
           have z2':decide (kn<s.size)=false:=qF h1;have hG2:=G_take (s:=s) (r:=r) (k:=k2) (m:=(m1,m2)) hk2 hm0 (fun q=>h1 (by have:=q.2;omega));have HG:=hid (show(L2++[mtk (m1,m2)])++G s r (k2+m1) (0,0)=T from by rw[qD];have:=HTi.out;rw[hG2] at this;exact this);have HBd:=hid (And.intro hk2 (And.intro hmf (And.intro hk3 hkn)));clear hG2 hSi hMi hTi hMt hm0 hz h1 hk2 hmf hkn;go_wp2_with (at_builtin;refine wpList_tq rfl (.tmp 110) (.tmp 116) rfl W.heap.size _ L2 rfl (HSi.out.ow.alloc _) wr.heap.size 1 0 (m1:Int) (m2:Int) rfl ⟨by simp,by simp,by simp⟩ (by omega) (by have:=HSi.out.bl.size;simp at this ⊢;omega) ?_;intro v' w' o' g' b';have hs5:=HSi.out.alloc (.cells #[.int .u8 0,.int .i64 (m1:Int),.int .i64 (m2:Int)] 64);have hm6:=B2.apart hs5 (Mb:=Mb) (x:=.int .i64 m1) (y:=.int .i64 m2) (old_at _ HM.out) g';have t0:=hm6.at0;clear hm6;have HS6:=hid (hs5.app g' o' b');clear o' g' b' hs5);go_roundw
           case rel=>exact⟨k2+m1,k3,L2++[mtk (m1,m2)],HBd.out.2.1,by go_num,by have:=HBd.out;omega,HS6.out,HG.out⟩
           case measure=>(have hbd:=HBd.out;have hbd1:=hbd.1;have hbd2:=hbd.2.1;clear hbd;simp[intOf];try omega)
       · have z1:decide ((m1:Int)<(r.z:Int))=false:=qF (by omega)
         have z1':decide (m1<r.z)=false:=qF hz;have hG2:=G_take (s:=s) (r:=r) (k:=k2) (m:=(m1,m2)) hk2 hm0 (fun q=>hz q.1);have HG:=hid (show(L2++[mtk (m1,m2)])++G s r (k2+m1) (0,0)=T from by rw[qD];have:=HTi.out;rw[hG2] at this;exact this);have HBd:=hid (And.intro hk2 (And.intro hmf (And.intro hk3 hkn)));clear hG2 hSi hMi hTi hMt hm0 hz hk2 hmf hkn;go_wp2_with (at_builtin;refine wpList_tq rfl (.tmp 110) (.tmp 116) rfl W.heap.size _ L2 rfl (HSi.out.ow.alloc _) wr.heap.size 1 0 (m1:Int) (m2:Int) rfl ⟨by simp,by simp,by simp⟩ (by omega) (by have:=HSi.out.bl.size;simp at this ⊢;omega) ?_;intro v' w' o' g' b';have hs5:=HSi.out.alloc (.cells #[.int .u8 0,.int .i64 (m1:Int),.int .i64 (m2:Int)] 64);have hm6:=B2.apart hs5 (Mb:=Mb) (x:=.int .i64 m1) (y:=.int .i64 m2) (old_at _ HM.out) g';have t0:=hm6.at0;clear hm6;have HS6:=hid (hs5.app g' o' b');clear o' g' b' hs5);go_roundw
         case rel=>exact⟨k2+m1,k3,L2++[mtk (m1,m2)],HBd.out.2.1,by go_num,by have:=HBd.out;omega,HS6.out,HG.out⟩
         case measure=>(have hbd:=HBd.out;have hbd1:=hbd.1;have hbd2:=hbd.2.1;clear hbd;simp[intOf];try omega)
  · have d1:decide ((k:Int)<(s.size:Int))=false:=qF (by omega)
    have d1':decide (k<s.size)=false:=qF hlt;rw[G_end (by omega),List.append_nil] at hTt;have HS:=hid hS;have HTt:=hid hTt;clear hS hTt;go_wp2_with fail;go_ret2;exact⟨_,rfl,by rw[←HTt.out];exact HS.out.ow,HS.out.bl⟩
end Q
end Go.Proofs.YtacelhaidcmbcaaGreatDoor.V.Px
