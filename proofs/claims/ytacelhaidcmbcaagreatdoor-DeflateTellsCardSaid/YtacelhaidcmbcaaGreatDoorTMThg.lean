/- Texts of one place, one behind the other: Thg, PkA, PkB, PkC, PkD. -/
import Derived.Test.YtacelhaidcmbcaaGreatDoorTSoA
import Derived.Test.YtacelhaidcmbcaaGreatDoorTMMathT
import Derived.Maps.AppendAt
import Derived.OwnWalk
import Derived.Laws.MakeOwn
import Derived.Test.YtacelhaidcmbcaaGreatDoorTMSoC
import Derived.Deep.OwnRows
import Derived.BigQuiet
set_option maxHeartbeats 8000000
set_option maxRecDepth 1000000
set_option linter.unusedVariables false
namespace Go.Proofs.YtacelhaidcmbcaaGreatDoor
open Go.RowKit M
abbrev Tr:=Nat×Nat×Option Addr
def cl:List Tr→List Value
 |[]=> []
 |t::l=> .int .u64 t.1::.int .i64 t.2.1::.pointer t.2.2::cl l
theorem z3q:∀l,(cl l).length=l.length*3
 |[]=>rfl
 |t::l=>by simp only[cl,qC];rw[z3q l];omega
theorem z6d:∀l r,cl (l++r)=cl l++cl r
 |[],_=>rfl
 |t::l,r=>by simp only[List.cons_append,cl];rw[z6d l r]
theorem zgP:∀ (l:List Tr) (i:Nat) (t:Tr),l[i]? =some t→(cl l)[i*3]? =some (.int .u64 t.1)∧(cl l)[i*3+1]? =some (.int .i64 t.2.1)∧(cl l)[i*3+2]? =some (.pointer t.2.2)
 |[],i,t,h=>by simp at h
 |a::l,0,t,h=>by simp at h;subst h;simp[cl]
 |a::l,i+1,t,h=>by
  rw[List.getElem?_cons_succ] at h;obtain⟨h1,h2,h3⟩:=zgP l i t h;simp only[cl];refine⟨?_,?_,?_⟩
  · rw[show(i+1)*3=i*3+1+1+1 by omega];simpa using h1
  · rw[show(i+1)*3+1=i*3+1+1+1+1 by omega];simpa using h2
  · rw[show(i+1)*3+2=i*3+2+1+1+1 by omega];simpa using h3
theorem zfa:∀ (l:List Tr),∀u∈cl l,u.oneCell'=true
 |[],u,h=>by simp[cl] at h
 |t::l,u,h=>by
  simp only[cl,List.mem_cons] at h;rcases h with rfl|rfl|rfl|h
  · rfl
  · rfl
  · rfl
  · exact zfa l u h
def Trs(w:World)(b o:Nat)(l:List Tr):Prop:=∀i t,l[i]? =some t→w.cell? ⟨b,o+i*3,none⟩=some (.int .u64 t.1)∧w.cell? ⟨b,o+i*3+1,none⟩=some (.int .i64 t.2.1)∧w.cell? ⟨b,o+i*3+2,none⟩=some (.pointer t.2.2)
theorem zfj(b o j:Nat):(⟨b,o,none⟩:Addr).add j=⟨b,o+j,none⟩:=by
 unfold Addr.add
 split
 · rename_i h;subst h;rfl
 · rfl
theorem Trs.cl{w:World}{b o:Nat}:∀ {l:List Tr},Trs w b o l→∀j u,(cl l)[j]? =some u→w.cell? ((⟨b,o,none⟩:Addr).add j)=some u:=by
 intro l h j u hu;rw[zfj];have hj:j<l.length*3:=by rw[←z3q];exact(List.getElem?_eq_some_iff.1 hu).1
 have hi:j/3<l.length:=by omega
 obtain⟨h1,h2,h3⟩:=h (j/3) _ (qE hi);obtain⟨g1,g2,g3⟩:=zgP l (j/3) _ (qE hi);have:j=j/3*3∨j=j/3*3+1∨j=j/3*3+2:=by omega
 rcases this with e|e|e
 · rw[←e] at g1 h1;rw[g1] at hu;rw[h1,←hu]
 · rw[←e] at g2;rw[g2] at hu;rw[show o+j=o+j/3*3+1 by omega,h2,←hu]
 · rw[←e] at g3;rw[g3] at hu;rw[show o+j=o+j/3*3+2 by omega,h3,←hu]
def Ow(base:Nat)(w:World)(v:Value)(l:List Tr):Prop:=w.ownsRow base 238 3 v l.length (cl l)
section
variable {base:Nat} {w w':World} {v:Value} {l r:List Tr}
theorem Ow.alloc(h:Ow base w v l)(o:Obj):Ow base (w.alloc o) v l:=World.ownsRow.alloc h o
theorem Ow.drewN(h:Ow base w v l)(n:Nat):Ow base (w.drewN n) v l:=h
theorem Ow.nil(base:Nat)(w:World):Ow base w (.slice none 0 0) []:=World.ownsRow_nil w base _ 3
theorem Ow.lt(h:Ow base w v l):∀k,v.ownBlock=some k→base≤k∧k<w.heap.size:=World.ownsRow.lt h
theorem Ow.form(h:Ow base w v l):(v=.slice none 0 0∧l=[])∨∃g cap,v=.slice (some ⟨g,0,none⟩) l.length cap∧base≤g∧g<w.heap.size:=by
 rcases h.2 with⟨h1,h2⟩|⟨g,cap,cur,rfl,hg,hh,_⟩
 · exact .inl ⟨h1,List.eq_nil_of_length_eq_zero h2⟩
 · refine .inr ⟨g,cap,rfl,hg,?_⟩
   rcases Nat.lt_or_ge g w.heap.size with q|q
   · exact q
   · rw[Array.getElem?_eq_none q] at hh;cases hh
theorem Ow.cap{g n cap:Nat}(h:Ow base w (.slice (some ⟨g,0,none⟩) n cap) l):l.length=n∧n≤cap∧cap≤maxLen:=by
 rcases h.2 with⟨h',_⟩|⟨g',cap',cur,h',_,_,hnc,hcm,_⟩
 · simp at h'
 · simp only[Value.slice.injEq,Option.some.injEq,Addr.mk.injEq,and_true] at h'
   obtain⟨rfl,h2,rfl⟩:=h';exact⟨h2.symm,by omega,hcm⟩
theorem Ow.trs{g n cap:Nat}(h:Ow base w (.slice (some ⟨g,0,none⟩) n cap) l):Trs w g 0 l:=by
 have hn:=h.cap.1;subst hn;intro i t hi;have hlt:=(List.getElem?_eq_some_iff.1 hi).1;obtain⟨h1,h2,h3⟩:=zgP l i t hi;rw[Nat.zero_add];have k:=fun j hj=>World.ownsRow.cellAt (w:=w) h j hj
 exact⟨(k _ (by omega)).trans h1,(k _ (by omega)).trans h2,(k _ (by omega)).trans h3⟩
theorem Ow.block{g n cap:Nat}(h:Ow base w (.slice (some ⟨g,0,none⟩) n cap) l):∃cur:Array Value,w.heap[g]? =some (.cells cur 238 (0,0))∧n*3≤cur.size:=by
 rcases h.2 with⟨h',_⟩|⟨g',cap',cur,h',_,hh,hnc,hcm,hs,_⟩
 · simp at h'
 · simp only[Value.slice.injEq,Option.some.injEq,Addr.mk.injEq,and_true] at h'
   obtain⟨rfl,h2,rfl⟩:=h';exact⟨cur,hh,by rw[hs];omega⟩
end
theorem z2X:(Tryz.prog.info? 238).map (fun i=>(i.zero,i.size,i.bytes))=some (some (.agg #[.int .u64 0,.int .i64 0,.pointer none]),3,24):=by kernel_rfl
theorem zdq:(Tryz.prog.info? 281).map (fun i=>(i.zero,i.size,i.bytes))=some (some (.agg #[.int .u64 0,.int .i64 0,.pointer none,.int .u64 0,.int .i64 0,.pointer none]),6,48):=by kernel_rfl
theorem byteInfo:(Tryz.prog.info? 5).map (fun i=>(i.zero,i.size,i.bytes))=some (some (.int .u8 0),1,1):=by kernel_rfl
theorem intInfo:(Tryz.prog.info? 3).map (fun i=>(i.zero,i.size,i.bytes))=some (some (.int .i64 0),1,8):=by kernel_rfl
theorem info_of{e:TypeId}{z:Value}{size bytes:Nat}(hi:(Tryz.prog.info? e).map (fun i=>(i.zero,i.size,i.bytes))=some (some z,size,bytes)):∃i,Tryz.prog.info? e=some i∧i.zero=some z∧i.size=size∧i.bytes=bytes:=by
 cases hq: Tryz.prog.info? e with
 |none=>rw[hq] at hi;cases hi
 |some i=>rw[hq] at hi;simp at hi;exact⟨i,rfl,hi.1,hi.2.1,hi.2.2⟩
theorem z1T(w:World){t e:TypeId}{z:Value}{size bytes:Nat}(ht: Tryz.prog.underlying t=some (.slice e))(hi:(Tryz.prog.info? e).map (fun i=>(i.zero,i.size,i.bytes))=some (some z,size,bytes))(hb:bytes≤64)(n m:Nat)(hn:n≤m)(hm:m≤2000):
 (Instr.makeSlice t (.int .i64 (n:Int)) (.int .i64 (m:Int))).run Tryz.prog w=.ok (.slice (some ⟨w.heap.size,0,none⟩) n m) (w.alloc (.cells (madeCells z.cells (m*size)) e)):=by
 obtain⟨i,h1,h2,h3,h4⟩:=info_of hi;subst h3 h4
 have hb':(i.bytes:Int)*(m:Int)≤281474976710656:=by
  have h:i.bytes*m≤64*2000:=Nat.mul_le_mul hb hm;have h':((i.bytes*m:Nat):Int)≤281474976710656:=by omega
  rwa [Int.natCast_mul] at h'
 have hr:=run_make (P:= Tryz.prog) w t e i z ht h1 h2 .i64 .i64 n m (by omega) (by omega) hb' (by omega);simp only[Int.toNat_natCast] at hr;exact hr
theorem zhA(w:World)(ty:TypeId)(base:Nat)(v:Value)(l r:List Tr)(hown:Ow base w v l)(b o c:Nat)(hG:Trs w b o r)(hm:l.length+r.length≤2000)(hb:base≤w.heap.size):
 ∃v' w',(Builtin.append_ #[234,234] ty #[v,.slice (some ⟨b,o,none⟩) r.length c]).run Tryz.prog w=.ok v' w'∧Ow base w' v' (l++r)∧w.grownBy w' v.ownBlock∧Below base w w'∧(v'.ownBlock=v.ownBlock∨v'.ownBlock=some w.heap.size):=by
 obtain⟨i,h1,h2,h3,h4⟩:=info_of z2X
 obtain⟨v',w',r1,r2,r3,_,r5⟩:=run_append_own_at (P:= Tryz.prog) w base 234 ty 238 i _ 3 24 Tryz.underlying234 h1 h2 h3 h4 rfl (by decide) v l.length (cl l) hown ⟨b,o,none⟩ r.length c (cl r) (z3q r)
  hG.cl (zfa r) (by unfold maxLen;omega) (by omega) hb
 refine⟨v',w',r1,?_,r3,(Below.refl base w).grown r3 hb (fun k hk=>(World.ownsRow.lt hown k hk).1),r5⟩;unfold Ow;rw[qA,z6d];exact r2
theorem z0T{ops:Array Oper}{rest:List Oper}{o:Oper}{a:Act}{w:World}{Q:Exit→Act→World→Prop}(hgd:o.guard=none)(s x:Operand)(ho:o.op=.call {callee:=.builtin .append,args:= #[s,x],argTypes:= #[234,234]})
 (base:Nat) (v:Value) (l r:List Tr) (hs:a.eval s=v) (hown:Ow base w v l) (b o' n c:Nat) (hx:a.eval x=.slice (some ⟨b,o',none⟩) n c) (hn:r.length=n) (hG:Trs w b o' r) (hm:l.length+r.length≤2000) (hb:base≤w.heap.size)
 (h:∀v' w',Ow base w' v' (l++r)→w.grownBy w' v.ownBlock→Below base w w'→(v'.ownBlock=v.ownBlock∨v'.ownBlock=some w.heap.size)→wpList Tryz.prog ops Q rest (a.put o.dst v') w'):wpList Tryz.prog ops Q (o::rest) a w:=
 wpList_plain hgd fun K hK=>by
  subst hn;obtain⟨v',w',r1,r2,r3,r4,r5⟩:=zhA w o.type base v l r hown b o' c hG hm hb;unfold Oper.wp execOp;simp only[ho,resolve,invoke,builtin,Sem.run_bind,Sem.run_pure,Result.andThen_ok,List.map_toArray,List.map_cons,List.map_nil,hs,hx,r1];exact hK _ _ (h v' w' r2 r3 r4 r5)
def z8w(w:World)(base:Nat):Th→Option Addr→Prop
 |.lf _ _,p=>p=none
 |.pk x y,p=> ∃g o px py,p=some ⟨g,o,none⟩∧base≤g∧g<w.heap.size∧
  (w.cell? ⟨g,o,none⟩=some (.int .u64 x.wt)∧w.cell? ⟨g,o+1,none⟩=some (.int .i64 x.sy)∧w.cell? ⟨g,o+2,none⟩=some (.pointer px))∧
  (w.cell? ⟨g,o+3,none⟩=some (.int .u64 y.wt)∧w.cell? ⟨g,o+4,none⟩=some (.int .i64 y.sy)∧w.cell? ⟨g,o+5,none⟩=some (.pointer py))∧z8w w base x px∧z8w w base y py
theorem z8w.kept{w w':World}{base:Nat}(q:∀g,base≤g→g<w.heap.size→w'.heap[g]? =w.heap[g]?)(hs:w.heap.size≤w'.heap.size):∀ {t:Th} {p:Option Addr},z8w w base t p→z8w w' base t p
 |.lf _ _,p,h=>h
 |.pk x y,p,h=>by
  obtain⟨g,o,px,py,rfl,hb,hg,⟨a1,a2,a3⟩,⟨b1,b2,b3⟩,h1,h2⟩:=h;have c:=fun o'=>World.cell?_of_block (w:=w) (w':=w') (a:=⟨g,o',none⟩) (q g hb hg)
  exact⟨g,o,px,py,rfl,hb,by omega,⟨(c _).trans a1,(c _).trans a2,(c _).trans a3⟩,⟨(c _).trans b1,(c _).trans b2,(c _).trans b3⟩,h1.kept q hs,h2.kept q hs⟩
theorem z8w.below{w w':World}{base:Nat}{t:Th}{p:Option Addr}(h:z8w w base t p)(hb:Below w.heap.size w w'):z8w w' base t p:=h.kept (fun g _ hg=>hb.block g hg) hb.size
abbrev Tp:=Th×Option Addr
def tr(x:Tp):Tr:=(x.1.wt,x.1.sy,x.2)
def z0p(w:World)(base:Nat)(A:Option Addr)(X:List Tp):Prop:=
 (0<X.length→∃b o,A=some ⟨b,o,none⟩∧b<w.heap.size∧Trs w b o (X.map tr))∧∀x∈X,z8w w base x.1 x.2
theorem Trs.below{w w':World}{b o:Nat}{l:List Tr}(h:Trs w b o l)(hl:b<w.heap.size)(hb:Below w.heap.size w w'):Trs w' b o l:=fun i t hi=>by
 obtain⟨h1,h2,h3⟩:=h i t hi;exact⟨(hb.cell hl).trans h1,(hb.cell hl).trans h2,(hb.cell hl).trans h3⟩
theorem z0p.below{w w':World}{base:Nat}{A:Option Addr}{X:List Tp}(h:z0p w base A X)(hb:Below w.heap.size w w'):z0p w' base A X:=by
 refine⟨fun hn=> ?_,fun x hx=>(h.2 x hx).below hb⟩;obtain⟨b,o,e,hl,ht⟩:=h.1 hn;exact⟨b,o,e,Nat.lt_of_lt_of_le hl hb.size,ht.below hl hb⟩
theorem Trs.one{w:World}{b o:Nat}{X:List Tp}(h:Trs w b o (X.map tr)){i:Nat}{x:Tp}(hx:X[i]? =some x):w.cell? ⟨b,o+i*3,none⟩=some (.int .u64 x.1.wt)∧w.cell? ⟨b,o+i*3+1,none⟩=some (.int .i64 x.1.sy)∧w.cell? ⟨b,o+i*3+2,none⟩=some (.pointer x.2):=
 h i (tr x) (by rw[List.getElem?_map,hx];rfl)
theorem Trs.drop{w:World}{b o:Nat}{l:List Tr}(h:Trs w b o l)(k:Nat):Trs w b (o+k*3) (l.drop k):=fun i t hi=>by
 rw[List.getElem?_drop] at hi;have:=h (k+i) t hi;rw[show o+(k+i)*3=o+k*3+i*3 by omega] at this;exact this
end Go.Proofs.YtacelhaidcmbcaaGreatDoor
namespace Go.Proofs.YtacelhaidcmbcaaGreatDoor
open Go.Lib (hid)
open Go.RowKit M
def ziw(z:Nat→Int)(n:Nat):Prop:=n≤320∧∀i,i<n→0≤z i∧z i≤1073741824
instance (z:Nat→Int) (n:Nat):Decidable (ziw z n):=inferInstanceAs (Decidable (n≤320∧∀i,i<n→0≤z i∧z i≤1073741824))
def zj0(z:Nat→Int)(n:Nat):Bool:=decide (ziw z n)
theorem z5W{z:Nat→Int}{n:Nat}(h:ziw z n):zj0 z n=true:=q9T h
theorem z2k{z:Nat→Int}{n:Nat}(h:¬ziw z n):zj0 z n=false:=qF h
theorem zdj(A:Option Addr)(n c:Nat)(z:Nat→Int)(w:World)(hn:n≤maxLen)(H:z09 w .i64 A n z):
 Calls Tryz.prog 144 #[.slice A n c] w fun e w'=>e=.returned (.bool (zj0 z n))∧w=w':=by
 have hn':n≤9223372036854775807:=by unfold maxLen at hn;omega
 clear hn;by_cases h3:n≤320
 · go_enter Tryz.func144,Tryz.ntmps144
   go_wp2
   go_loop [10] (fun i=> ∃k:Nat,k≤n∧i=.int .i64 k∧Hid (∀j,j<k→0≤z j∧z j≤1073741824)) (fun i=>n - (intOf i).toNat)
   case atStart=>exact⟨0,qZ,rfl,hid (fun j hj=>by omega)⟩
   case round=>
    obtain⟨k,hk,rfl,hsm⟩:=hrel;by_cases hlt:k<n
    · obtain⟨b,o,rfl,hb,hc⟩:=H (by omega)
      have hcell:=hc k hlt;have HH:=hid hc;clear hc;obtain⟨x,hx⟩:∃x,z k=x:=⟨_,rfl⟩
      rw[hx] at hcell;have HX:=hid hx;clear hx;by_cases h1:x<0
      · have d1:decide (x<0)=true:=q9T h1
        have hv:=hid (z2k (z:=z) (n:=n) (fun g=>by have:=g.2 k hlt;rw[HX.out] at this;omega));go_wp2;go_ret;exact⟨by rw[hv.out];rfl,rfl⟩
      · have d1:decide (x<0)=false:=qF h1
        by_cases h2:1073741824<x
        · have hv:=hid (z2k (z:=z) (n:=n) (fun g=>by have:=g.2 k hlt;rw[HX.out] at this;omega))
          have d2:decide (1073741824<x)=true:=q9T h2;go_wp2;go_ret;exact⟨by rw[hv.out];rfl,rfl⟩
        · have d2:decide (1073741824<x)=false:=qF h2
          go_wp2
          go_round
          case rel=>exact⟨k+1,by omega,by go_num,hid (fun j hj=>by
           by_cases e:j=k
           · rw[e,HX.out];omega
           · exact hsm.out j (by omega))⟩
          case measure=>simp[intOf];omega
    · obtain rfl:k=n:=by omega
      have hv:=hid (z5W (z:=z) (n:=k) ⟨h3,hsm.out⟩);go_wp2;go_ret;exact⟨by rw[hv.out];rfl,rfl⟩
 · have hv:=hid (z2k (z:=z) (n:=n) (fun g=>h3 g.1))
   go_enter Tryz.func144,Tryz.ntmps144;go_wp2;go_ret;exact⟨by rw[hv.out];rfl,rfl⟩
structure Raw(c:Nat→Nat)(k m:Nat)(e:Nat→Nat×Nat):Prop where
 inc:Inc e m
 is_:∀i,i<m→(e i).2<k∧0<c (e i).2∧(e i).1=c (e i).2
 all:∀s,s<k→0<c s→∃i,i<m∧(e i).2=s
 le:m≤k
structure z2x(c:Nat→Nat)(n m:Nat)(e:Nat→Nat×Nat):Prop where
 ord:Ord e 0 m
 is_:∀i,i<m→(e i).2<n∧0<c (e i).2∧(e i).1=c (e i).2
 all:∀s,s<n→0<c s→∃i,i<m∧(e i).2=s
 le:m≤n
theorem Raw.none(c:Nat→Nat)(e:Nat→Nat×Nat):Raw c 0 0 e:=⟨fun i j h1 h2=>by omega,fun i h=>by omega,fun s h=>by omega,qR⟩
theorem Raw.skip{c:Nat→Nat}{k m:Nat}{e:Nat→Nat×Nat}(h:Raw c k m e)(hz:c k=0):Raw c (k+1) m e:=
 ⟨h.inc,fun i hi=>by have:=h.is_ i hi;exact⟨by omega,this.2⟩,fun s hs hc=>by
  by_cases q:s=k
  · subst q;omega
  · exact h.all s (by omega) hc,by have:=h.le;omega⟩
theorem Raw.more{c:Nat→Nat}{k m:Nat}{e:Nat→Nat×Nat}(h:Raw c k m e)(hz:0<c k):Raw c (k+1) (m+1) (fun i=>if i=m then(c k,k) else e i):=by
 refine⟨fun i j h1 h2=> ?_,fun i hi=> ?_,fun s hs hc=> ?_,by have:=h.le;omega⟩
 · by_cases q:j=m
   · have:=(h.is_ i (by omega)).1
     simp only[if_pos q,if_neg (show ¬i=m by omega)];exact this
   · simp only[if_neg q,if_neg (show ¬i=m by omega)];exact h.inc i j h1 (by omega)
 · by_cases q:i=m
   · simp only[if_pos q];exact⟨Nat.lt_succ_self _,hz,trivial⟩
   · simp only[if_neg q];have:=h.is_ i (by omega);exact⟨by omega,this.2⟩
 · by_cases q:s=k
   · exact⟨m,by omega,by simp only[if_pos];exact q.symm⟩
   · obtain⟨i,hi,r⟩:=h.all s (by omega) hc
     exact⟨i,by omega,by simp only[if_neg (show ¬i=m by omega)];exact r⟩
theorem Raw.lv{c:Nat→Nat}{n m:Nat}{e e':Nat→Nat×Nat}(h:Raw c n m e)(ho:Ord e' 0 m)(hm:Mem e e' 0 m):z2x c n m e':=
 ⟨ho,fun i hi=>by
  obtain⟨j,_,j2,q⟩:=hm.fro i qZ hi;rw[q];exact h.is_ j j2,fun s hs hc=>by
  obtain⟨i,hi,r⟩:=h.all s hs hc;obtain⟨j,_,j2,q⟩:=hm.to i qZ hi;exact⟨j,j2,by rw[←q];exact r⟩,h.le⟩
def lt3(m:Nat)(e:Nat→Nat×Nat):List Tr:=(List.range m).map fun i=>((e i).1,(e i).2,none)
theorem z2n(m:Nat)(e:Nat→Nat×Nat):(lt3 m e).length=m:=by unfold lt3;simp
theorem zi3(m:Nat)(e:Nat→Nat×Nat){i:Nat}(h:i<m):(lt3 m e)[i]? =some ((e i).1,(e i).2,none):=by unfold lt3;simp[h]
theorem zdG(m x y:Nat)(e:Nat→Nat×Nat):lt3 m e++[(x,y,none)]=lt3 (m+1) (fun i=>if i=m then(x,y) else e i):=by
 unfold lt3;rw[List.range_succ,List.map_append];congr 1
 · apply List.map_congr_left
   intro i hi;have:=List.mem_range.1 hi;simp only[if_neg (show ¬i=m by omega)]
 · simp
theorem Ow.lfs{base g m cap:Nat}{w:World}{e:Nat→Nat×Nat}(h:Ow base w (.slice (some ⟨g,0,none⟩) m cap) (lt3 m e)):Lfs w g m e:=by
 obtain⟨cur,hc,hs⟩:=h.block;refine⟨cur,hc,hs,fun i hi=> ?_⟩;have:=h.trs i _ (zi3 m e hi);rw[cell_of_row w g _ cur _ _ hc,cell_of_row w g _ cur _ _ hc,cell_of_row w g _ cur _ _ hc] at this;rw[Nat.zero_add] at this;exact this
theorem z39(w:World)(x y:Nat)(p:Option Addr):Trs (w.alloc (.cells #[.int .u64 x,.int .i64 y,.pointer p] 238)) w.heap.size 0 [(x,y,p)]:=by
 intro i t h
 match i,h with
 |0,h=>
  simp at h;subst h;simp
theorem z9a(A:Option Addr)(n c':Nat)(c:Nat→Nat)(W:World)(hn:n≤320)(hc:∀i,c i≤1073741824)(H:z09 W .i64 A n (fun i=>(c i:Int))):
 Calls Tryz.prog 145 #[.slice A n c'] W fun x w'=> ∃A' cap m e,x=.returned (.slice A' m cap)∧m≤cap∧z2x c n m e∧(0<m→∃b,A'=some ⟨b,0,none⟩∧Lfs w' b m e)∧Below W.heap.size W w':=by
 have HC:=hid hc;have HA:=hid H;clear hc H;go_enter Tryz.func145,Tryz.ntmps145;go_wp2_with fail
 go_loopw [3,8] (fun v i wr=> ∃ (k m:Nat) (e:Nat→Nat×Nat),i=.int .i64 k∧k≤n∧Hid (Ow W.heap.size wr v (lt3 m e)∧Raw c k m e∧Below W.heap.size W wr)) (fun v i _=>n - (intOf i).toNat)
 case atStart=>exact⟨0,0,fun _=>(0,0),rfl,qZ,hid ⟨Ow.nil _ _,Raw.none _ _,Below.refl _ _⟩⟩
 case round=>
  obtain⟨k,m,e,rfl,hk,HB⟩:=hrel;by_cases hlt:k<n
  · obtain⟨b,o,rfl,hb,hc1⟩:=HA.out (by omega)
    have hcell:wr.cell? ⟨b,o+k,none⟩=some (.int .i64 (c k)):=(HB.out.2.2.cell hb).trans (hc1 k hlt);have h30:=HC.out k;clear hc1;obtain⟨x,hx⟩:∃x,c k=x:=⟨_,rfl⟩
    rw[hx] at hcell h30;have HX:=hid hx;clear hx;by_cases h0:0<x
    · have hsz:=HB.out.2.2.size
      have hw:IntKind.u64.wrap (x:Int)=(x:Int):=by rw[IntKind.wrap_u64];omega
      have HO:=hid (show Ow W.heap.size (wr.alloc (.cells #[.int .u64 x,.int .i64 k,.pointer none] 238)) _ (lt3 m e) from HB.out.1.alloc _);have HT:=hid (z39 wr x k none);have HS:=hid (show W.heap.size≤(wr.alloc (.cells #[.int .u64 x,.int .i64 k,.pointer none] 238)).heap.size by simp;omega);have HM:=hid (show(lt3 m e).length+1≤2000 by have:=HB.out.2.1.le;rw[z2n];omega);clear hsz;go_wp2_with (at_builtin;refine z0T rfl _ _ rfl W.heap.size _ (lt3 m e) [(x,k,none)] rfl HO.out _ 0 1 _ rfl rfl HT.out HM.out HS.out ?_;intro v2 w2 o2 g2 b2 q2;have O2:=hid o2;have B2:=hid b2;clear o2 g2 b2 q2);go_roundw
      case rel=>
       refine⟨k+1,m+1,_,by go_num,by omega,hid ⟨by have:=O2.out;rw[zdG] at this;exact this,?_,?_⟩⟩
       · have:=HB.out.2.1.more (k:=k) (by rw[HX.out];exact h0)
         rw[HX.out] at this;exact this
       · exact(HB.out.2.2.alloc HB.out.2.2.size _).trans B2.out
      case measure=>simp[intOf];omega
    · obtain rfl:x=0:=by omega
      go_wp2_with fail;go_roundw
      case rel=>exact⟨k+1,m,e,by go_num,by omega,hid ⟨HB.out.1,HB.out.2.1.skip HX.out,HB.out.2.2⟩⟩
      case measure=>simp[intOf];omega
  · obtain rfl:k=n:=by omega
    rcases HB.out.1.form with⟨rfl,h1⟩|⟨g,cap,rfl,hg,hg2⟩
    · have h0:=congrArg List.length h1
      rw[z2n] at h0;obtain rfl:m=0:=h0;have HL:=hid (HB.out.2.1.lv (e':=e) (fun i j h1 h2 h3=>by omega) ⟨fun i h1 h2=>by omega,fun i h1 h2=>by omega⟩);clear h1;go_wp2_with fail;refine(za0 0 _ _).mono ?_;rintro x w1 ⟨rfl,rfl⟩;go_wp2_with fail;go_ret;exact⟨_,_,_,_,rfl,qR,HL.out,fun h=>absurd h (by omega),HB.out.2.2⟩
    · rw[z2n] at HB ⊢
      have HL:=hid HB.out.1.lfs;have HR:=HB.out.2.1;have HI:=hid HR.inc;have HCAP:=hid HB.out.1.cap.2.1;have HM:=hid (show m≤400 by have:=HR.le;omega);clear HR;go_wp2_with fail;refine(zcU g m cap e _ HM.out HI.out HL.out).mono ?_;rintro x w1 ⟨rfl,e1,l1,o1,m1,k1⟩;have F1:=hid (show z2x c k m e1∧(0<m→∃b,some (⟨g,0,none⟩:Addr)=some ⟨b,0,none⟩∧Lfs w1 b m e1)∧Below W.heap.size W w1 from⟨HB.out.2.1.lv o1 m1,fun _=>⟨g,rfl,l1⟩,HB.out.2.2.trans (k1.below HB.out.2.2.size (fun j hj=>by rw[hj];exact hg))⟩);clear l1 o1 m1 k1;go_wp2_with fail;go_ret;exact⟨_,_,_,_,rfl,HCAP.out,F1.out.1,F1.out.2.1,F1.out.2.2⟩
def tp0:Tp:=(.lf 0 0,none)
def zaK(x:Tp)(j:Nat):Value:=if j=0 then .int .u64 x.1.wt else if j=1 then .int .i64 x.1.sy else .pointer x.2
def z1z(w:World)(g:Nat)(T:TypeId)(n:Nat)(X:Nat→Tp):Prop:=w.rowIs g T (n*3) (fun j=>zaK (X (j/3)) (j%3))
section
variable {w w':World} {g n:Nat} {T:TypeId} {X Y:Nat→Tp}
theorem z1z.congr(h:z1z w g T n X)(e:∀i,i<n→X i=Y i):z1z w g T n Y:=World.rowIs.congr h (fun j hj=>by rw[e (j/3) (by omega)])
theorem z1z.lt(h:z1z w g T n X):g<w.heap.size:=World.rowIs.lt h
theorem z1z.alloc(h:z1z w g T n X)(o:Obj):z1z (w.alloc o) g T n X:=World.rowIs.alloc h o
theorem z1z.other(h:z1z w g T n X){a:Addr}(ha:g≠a.block)(v:Value):z1z (w.setCell a v) g T n X:=World.rowIs.setOther h ha v
theorem z1z.drew(h:z1z w g T n X):z1z w.drew g T n X:=h
theorem z1z.frozen(h:z1z w g T n X)(i:Nat):w.frozen? ⟨g,i,none⟩=false:=World.rowIs.frozen h i
theorem z1z.cells(h:z1z w g T n X){i:Nat}(hi:i<n):w.cell? ⟨g,i*3,none⟩=some (.int .u64 (X i).1.wt)∧w.cell? ⟨g,i*3+1,none⟩=some (.int .i64 (X i).1.sy)∧w.cell? ⟨g,i*3+2,none⟩=some (.pointer (X i).2):=by
 have k:=fun j (hj:j<n*3)=>World.rowIs.cell (w:=w) h hj
 refine⟨?_,?_,?_⟩
 · rw[k _ (by omega),show i*3/3=i by omega,show i*3%3=0 by omega];rfl
 · rw[k _ (by omega),show(i*3+1) /3=i by omega,show(i*3+1)%3=1 by omega];rfl
 · rw[k _ (by omega),show(i*3+2) /3=i by omega,show(i*3+2)%3=2 by omega];rfl
theorem z1z.set(h:z1z w g T n X)(i:Nat)(x:Tp):z1z (((w.setCell ⟨g,i*3,none⟩ (.int .u64 x.1.wt)).setCell ⟨g,i*3+1,none⟩ (.int .i64 x.1.sy)).setCell ⟨g,i*3+2,none⟩ (.pointer x.2)) g T n (fun t=>if t=i then x else X t):=by
 refine World.rowIs.congr (((World.rowIs.set h (i*3) (.int .u64 x.1.wt)).set (i*3+1) (.int .i64 x.1.sy)).set (i*3+2) (.pointer x.2)) (fun j hj=> ?_);have hm:j%3=0∨j%3=1∨j%3=2:=by omega
 by_cases q:j/3=i
 · have e:(fun t=>if t=i then x else X t) (j/3)=x:=if_pos q
   rcases hm with r|r|r
   · rw[if_neg (by omega),if_neg (by omega),if_pos (by omega),r];simp only[if_pos q];rfl
   · rw[if_neg (by omega),if_pos (by omega),r];simp only[if_pos q];rfl
   · rw[if_pos (by omega),r];simp only[if_pos q];rfl
 · rw[if_neg (by omega),if_neg (by omega),if_neg (by omega)]
   simp only[if_neg q]
theorem z1z.trs(h:z1z w g T n X)(l:List Tp)(hl:l.length≤n)(e:∀i x,l[i]? =some x→X i=x):Trs w g 0 (l.map tr):=fun i t hi=>by
 rw[List.getElem?_map] at hi;cases hq:l[i]? with
 |none=>rw[hq] at hi;cases hi
 |some x=>
  rw[hq] at hi;obtain rfl:tr x=t:=by simpa using hi
  have hlt:=(List.getElem?_eq_some_iff.1 hq).1;have:=h.cells (show i<n by omega);rw[e i x hq] at this;rw[Nat.zero_add];exact this
end
theorem z1z.made1(w:World)(n:Nat):z1z (w.alloc (.cells (madeCells #[.int .u64 0,.int .i64 0,.pointer none] (n*3)) 238)) w.heap.size 238 n (fun _=>tp0):=by
 have h:=World.rowIs_alloc w (madeCells #[.int .u64 0,.int .i64 0,.pointer none] (n*3)) 238 (fun j=>zaK tp0 (j%3)) (fun j hj=>by
  rw[size_madeCells] at hj;have hm:j%3=0∨j%3=1∨j%3=2:=by omega
  rcases hm with r|r|r<;>simp[madeCells,hj,r,zaK,tp0,Th.wt,Th.sy])
 rw[size_madeCells] at h;exact h
theorem z1z.made2(w:World)(n:Nat):z1z (w.alloc (.cells (madeCells #[.int .u64 0,.int .i64 0,.pointer none,.int .u64 0,.int .i64 0,.pointer none] (n*6)) 281)) w.heap.size 281 (2*n) (fun _=>tp0):=by
 have h:=World.rowIs_alloc w (madeCells #[.int .u64 0,.int .i64 0,.pointer none,.int .u64 0,.int .i64 0,.pointer none] (n*6)) 281 (fun j=>zaK tp0 (j%3)) (fun j hj=>by
  rw[size_madeCells] at hj;have hm:(j%6=0∧j%3=0)∨(j%6=1∧j%3=1)∨(j%6=2∧j%3=2)∨(j%6=3∧j%3=0)∨(j%6=4∧j%3=1)∨(j%6=5∧j%3=2):=by omega
  rcases hm with⟨r,s⟩|⟨r,s⟩|⟨r,s⟩|⟨r,s⟩|⟨r,s⟩|⟨r,s⟩<;>simp[madeCells,hj,r,s,zaK,tp0,Th.wt,Th.sy])
 rw[size_madeCells] at h;unfold z1z;rw[show 2*n*3=n*6 by omega];exact h
def pkt(gp:Nat)(R:List Tp):List Tp:=(List.range (R.length/2)).map fun i=>(.pk (R.getD (2*i) tp0).1 (R.getD (2*i+1) tp0).1,some ⟨gp,i*6,none⟩)
theorem z10(gp:Nat)(R:List Tp):(pkt gp R).length=R.length/2:=by unfold pkt;simp
theorem z7M(gp:Nat)(R:List Tp){i:Nat}(h:i<R.length/2):(pkt gp R)[i]? =some (.pk (R.getD (2*i) tp0).1 (R.getD (2*i+1) tp0).1,some ⟨gp,i*6,none⟩):=by unfold pkt;simp[h]
theorem zaF:∀ (R:List Th) (i:Nat),i<R.length/2→(pks R)[i]? =some (.pk (R.getD (2*i) (.lf 0 0)) (R.getD (2*i+1) (.lf 0 0)))
 |[],i,h=>by simp at h
 |[a],i,h=>by simp at h
 |a::b::r,0,h=>by simp[pks]
 |a::b::r,i+1,h=>by
  simp only[qC] at h;rw[pks,List.getElem?_cons_succ,zaF r i (by omega),show 2*(i+1)=2*i+1+1 by omega];simp
theorem z1Y(R:List Tp)(i:Nat):(R.map (·.1)).getD i (.lf 0 0)=(R.getD i tp0).1:=by
 rw[List.getD,List.getD,List.getElem?_map];cases R[i]? <;>rfl
theorem zg6(gp:Nat)(R:List Tp):(pkt gp R).map (·.1)=pks (R.map (·.1)):=by
 apply List.ext_getElem?
 intro i;rw[List.getElem?_map];by_cases h:i<R.length/2
 · rw[z7M gp R h,zaF _ i (by simpa using h),z1Y,z1Y];rfl
 · rw[List.getElem?_eq_none (by rw[z10];omega),List.getElem?_eq_none (by rw[z0y,List.length_map];omega)];rfl
def prX(R:List Tp)(k i:Nat):Tp:=if i<2*k then R.getD i tp0 else tp0
def pkX(gp:Nat)(R:List Tp)(k i:Nat):Tp:=if i<k then(.pk (R.getD (2*i) tp0).1 (R.getD (2*i+1) tp0).1,some ⟨gp,i*6,none⟩) else tp0
theorem zdn(A:Option Addr)(n c base:Nat)(R:List Tp)(W:World)(hl:R.length=n)(hn:n≤1000)(hbase:base≤W.heap.size)(hw:∀x∈R,x.1.wt≤1125899906842624)(H:z0p W base A R):
 Calls Tryz.prog 168 #[.slice A n c] W fun x w'=> ∃g gp,x=.returned (.slice (some ⟨g,0,none⟩) (n/2) (n/2))∧z0p w' base (some ⟨g,0,none⟩) (pkt gp R)∧Below W.heap.size W w':=by
 obtain⟨np,hnp⟩:∃np,n/2=np:=⟨_,rfl⟩
 have e1:(n:Int) /2=(np:Int):=by omega
 have HP:=hid hnp;have HL:=hid hl;have HA:=hid H;have HW:=hid hw;have HB:=hid hbase;have hnp5:np≤500:=by omega
 have m1:=fun w=>z1T w Tryz.underlying280 zdq (by decide) np np qR (by omega)
 have m2:=fun w=>z1T w Tryz.underlying234 z2X (by decide) np np qR (by omega)
 clear hnp hl H hw hbase;go_enter Tryz.func168,Tryz.ntmps168;go_wp2_with fail;clear m1 m2
 go_loopw [15] (fun i wr=> ∃k:Nat,k≤np∧i=.int .i64 k∧z1z wr W.heap.size 281 (2*np) (prX R k)∧z1z wr (W.heap.size+1) 238 np (pkX W.heap.size R k)∧Below W.heap.size W wr) (fun i _=>np - (intOf i).toNat)
 case atStart=>
  refine⟨0,qZ,rfl,((z1z.made2 W np).alloc _).congr (fun i _=>by unfold prX;rw[if_neg (by omega)]),?_,(qL).alloc (by simp) _⟩;have h:=z1z.made1 (W.alloc (.cells (madeCells #[.int .u64 0,.int .i64 0,.pointer none,.int .u64 0,.int .i64 0,.pointer none] (np*6)) 281)) np;rw[show(W.alloc (.cells (madeCells #[.int .u64 0,.int .i64 0,.pointer none,.int .u64 0,.int .i64 0,.pointer none] (np*6)) 281)).heap.size=W.heap.size+1 by simp] at h;exact h.congr (fun i _=>by unfold pkX;rw[if_neg (by omega)])
 case round=>
  obtain⟨k,hk,rfl,hp,hq,hb⟩:=hrel;by_cases hlt:k<np
  · have hRn:=HL.out
    have hnp:=HP.out;obtain⟨u,hu⟩:∃u,2*k=u:=⟨_,rfl⟩
    obtain⟨v,hv⟩:∃v,u+1=v:=⟨_,rfl⟩
    have l1:u<R.length:=by omega
    have l2:v<R.length:=by omega
    obtain⟨b,o,rfl,hbs,ht⟩:=HA.out.1 (by omega);have x1:=ht.one (qE l1);have y1:=ht.one (qE l2);have gx:R.getD u tp0=R[u]:=by rw[List.getD,qE l1];rfl
    have gy:R.getD v tp0=R[v]:=by rw[List.getD,qE l2];rfl
    have hwx:=HW.out _ (List.getElem_mem l1);have hwy:=HW.out _ (List.getElem_mem l2);obtain⟨x,hx⟩:∃x,R[u]=x:=⟨_,rfl⟩
    obtain⟨y,hy⟩:∃y,R[v]=y:=⟨_,rfl⟩
    rw[hx] at x1 gx hwx;rw[hy] at y1 gy hwy;obtain⟨x1,x2,x3⟩:=x1;obtain⟨y1,y2,y3⟩:=y1;have x1':=(hb.cell hbs).trans x1;have x2':=(hb.cell hbs).trans x2;have x3':=(hb.cell hbs).trans x3;have y1':=(hb.cell hbs).trans y1;have y2':=(hb.cell hbs).trans y2;have y3':=(hb.cell hbs).trans y3;clear x1 x2 x3 y1 y2 y3 ht hx hy l1 l2;have hs1:=(hp.set (2*k) x).set (2*k+1) y;rw[show 2*k*3=k*6 by omega,show(2*k+1)*3=k*6+3 by omega] at hs1;have hs2:=hq.set k (.pk x.1 y.1,some ⟨W.heap.size,k*6,none⟩);obtain⟨c1,c2,c3⟩:=hp.cells (show 2*k<2*np by omega);obtain⟨c4,c5,c6⟩:=hp.cells (show 2*k+1<2*np by omega);rw[show 2*k*3=k*6 by omega] at c1 c2 c3;rw[show(2*k+1)*3=k*6+3 by omega] at c4 c5 c6;obtain⟨d1,d2,d3⟩:=hq.cells (show k<np by omega);have f1:=hp.frozen (k*6);have f2:=hp.frozen (k*6+1);have f3:=hp.frozen (k*6+2);have f4:=hp.frozen (k*6+3);have f5:=hp.frozen (k*6+3+1);have f6:=hp.frozen (k*6+3+2);have f7:=hq.frozen (k*3);have f8:=hq.frozen (k*3+1);have f9:=hq.frozen (k*3+2);have w1:IntKind.i64.wrap (2*(k:Int))=(u:Int):=by rw[IntWalk.i64_in _ (by omega)];omega
    have w2:IntKind.i64.wrap ((u:Int)+1)=(v:Int):=by rw[IntWalk.i64_in _ (by omega)];omega
    have w3:2*(k:Int)=(u:Int):=by omega
    have w4:(u:Int)+1=(v:Int):=by omega
    have w5:IntKind.i64.wrap (u:Int)=(u:Int):=IntWalk.i64_in _ (by omega);have w6:IntKind.i64.wrap (v:Int)=(v:Int):=IntWalk.i64_in _ (by omega);have w7:((u:Int)).toNat=u:=by omega
    have w8:((v:Int)).toNat=v:=by omega
    obtain⟨xw,hxw⟩:∃t,x.1.wt=t:=⟨_,rfl⟩
    obtain⟨xs,hxs⟩:∃t,x.1.sy=t:=⟨_,rfl⟩
    obtain⟨xp,hxp⟩:∃t,x.2=t:=⟨_,rfl⟩
    obtain⟨yw,hyw⟩:∃t,y.1.wt=t:=⟨_,rfl⟩
    obtain⟨ys,hys⟩:∃t,y.1.sy=t:=⟨_,rfl⟩
    obtain⟨yp,hyp⟩:∃t,y.2=t:=⟨_,rfl⟩
    rw[hxw] at x1' hwx hs1;rw[hxs] at x2' hs1;rw[hxp] at x3' hs1;rw[hyw] at y1' hwy hs1;rw[hys] at y2' hs1;rw[hyp] at y3' hs1;have un:u<n:=by omega
    have vn:v<n:=by omega
    have hsz:=hb.size;have q4:k*6+3+1=k*6+4:=rfl;have q5:k*6+3+2=k*6+5:=rfl;rw[q4,q5] at hs1;rw[q4] at c5 f5;rw[q5] at c6 f6;have hsum:(x.1.pk y.1).wt=xw+yw:=by simp only[Th.wt];rw[hxw,hyw]
    have hsy:(x.1.pk y.1).sy=0:=rfl;have hs2':=hq.set k (.pk x.1 y.1,some ⟨W.heap.size,k*6,none⟩);obtain⟨W6,hW6⟩:∃w6,((((((wr.setCell ⟨W.heap.size,k*6,none⟩ (.int .u64 xw)).setCell ⟨W.heap.size,k*6+1,none⟩ (.int .i64 xs)).setCell ⟨W.heap.size,k*6+2,none⟩ (.pointer xp)).setCell ⟨W.heap.size,k*6+3,none⟩ (.int .u64 yw)).setCell ⟨W.heap.size,k*6+4,none⟩ (.int .i64 ys)).setCell ⟨W.heap.size,k*6+5,none⟩ (.pointer yp))=w6:=⟨_,rfl⟩
    rw[hW6] at hs1
    have hb6:Below W.heap.size W W6:=by
     rw[←hW6];exact(((((hb.setCell qR _).setCell qR _).setCell qR _).setCell qR _).setCell qR _).setCell qR _
    have hq6:z1z W6 (W.heap.size+1) 238 np (pkX W.heap.size R k):=by
     rw[←hW6];exact(((((hq.other (by simp) _).other (by simp) _).other (by simp) _).other (by simp) _).other (by simp) _).other (by simp) _
    obtain⟨d1',d2',d3'⟩:=hq6.cells (show k<np by omega);have f7':=hq6.frozen (k*3);have f8':=hq6.frozen (k*3+1);have f9':=hq6.frozen (k*3+2);have z1:W6.cell? ⟨b,o+u*3,none⟩=some (.int .u64 xw):=(hb6.cell hbs).trans ((hb.cell hbs).symm.trans x1');have z2:W6.cell? ⟨b,o+v*3,none⟩=some (.int .u64 yw):=(hb6.cell hbs).trans ((hb.cell hbs).symm.trans y1');have hs7:=hq6.set k (.pk x.1 y.1,some ⟨W.heap.size,k*6,none⟩);rw[show((Th.pk x.1 y.1,some (⟨W.heap.size,k*6,none⟩:Addr)):Tp).1.wt=xw+yw from hsum,show((Th.pk x.1 y.1,some (⟨W.heap.size,k*6,none⟩:Addr)):Tp).1.sy=0 from rfl] at hs7
    have HS7:=hid (hs7.congr (Y:=pkX W.heap.size R (k+1)) (fun i _=>by
     unfold pkX;by_cases q:i=k
     · subst q;rw[if_pos rfl,if_pos (by omega),hu,hv,gx,gy]
     · rw[if_neg q]
       by_cases q2:i<k
       · rw[if_pos q2,if_pos (by omega)]
       · rw[if_neg q2,if_neg (by omega)]))
    have HP7:=hid ((hs1.other (a:=⟨W.heap.size+1,k*3,none⟩) (by simp) (.int .u64 ((xw+yw:Nat):Int))).other (a:=⟨W.heap.size+1,k*3+1,none⟩) (by simp) (.int .i64 ((0:Nat):Int))|>.other (a:=⟨W.heap.size+1,k*3+2,none⟩) (by simp) (.pointer (some ⟨W.heap.size,k*6,none⟩))|>.congr (Y:=prX R (k+1)) (fun i _=>by
     unfold prX;by_cases q:i=2*k+1
     · rw[if_pos q,if_pos (by omega),q,hu,hv,gy]
     · rw[if_neg q]
       by_cases q2:i=2*k
       · rw[if_pos q2,if_pos (by omega),q2,hu,gx]
       · rw[if_neg q2]
         by_cases q3:i<2*k
         · rw[if_pos q3,if_pos (by omega)]
         · rw[if_neg q3,if_neg (by omega)]))
    have HB7:=hid (((hb6.setCell (p:=⟨W.heap.size+1,k*3,none⟩) (by simp) (.int .u64 ((xw+yw:Nat):Int))).setCell (p:=⟨W.heap.size+1,k*3+1,none⟩) (by simp) (.int .i64 ((0:Nat):Int))).setCell (p:=⟨W.heap.size+1,k*3+2,none⟩) (by simp) (.pointer (some ⟨W.heap.size,k*6,none⟩)));have w9:IntKind.u64.wrap ((xw:Int)+(yw:Int))=((xw+yw:Nat):Int):=by rw[IntKind.wrap_u64];omega
    have HU:=hid hu;have HV:=hid hv;have HW6:=hid hW6;clear hs1 hs2 hs2' hs7 hq6 hb6 hp hq hb hsum hsy hu hv gx gy hxw hxs hxp hyw hys hyp hRn hnp q4 q5 hW6 hlt;have hlt:k<np:=by omega
    go_wp2_with fail
    go_region
    rw[HW6.out];clear c1 c2 c3 c4 c5 c6 d1 d2 d3 f1 f2 f3 f4 f5 f6 f7 f8 f9 x1' x2' x3' y1' y2' y3' hsz;go_wp2_with fail
    go_region
    go_wp2_with fail;go_roundw
    case rel=>exact⟨k+1,by omega,by go_num,HP7.out.drew,HS7.out.drew,HB7.out.drew.drew⟩
    case measure=>simp[intOf];omega
  · obtain rfl:k=np:=by omega
    have HQ:=hid hq;have HPP:=hid hp;have HBB:=hid hb;clear hp hq hb;go_wp2_with fail;go_ret;have hq:=HQ.out;have hp:=HPP.out;have hR:=HL.out;have hnp:=HP.out;have hlen:(pkt W.heap.size R).length=k:=by rw[z10];omega
    rw[hnp];refine⟨_,W.heap.size,rfl,⟨fun _=>⟨_,0,rfl,hq.lt,hq.trs _ (by omega) (fun i x hx=> ?_)⟩,fun x hx=> ?_⟩,HBB.out⟩
    · have hi:=(List.getElem?_eq_some_iff.1 hx).1
      rw[hlen] at hi;rw[z7M _ _ (by omega)] at hx;unfold pkX;rw[if_pos hi];exact Option.some.inj hx
    · obtain⟨i,hi,rfl⟩:=List.getElem_of_mem hx
      have hi':=hi;rw[hlen] at hi';have e:=z7M W.heap.size R (i:=i) (by omega);rw[qE hi] at e;rw[Option.some.inj e];have l1:2*i<R.length:=by omega
      have l2:2*i+1<R.length:=by omega
      obtain⟨a1,a2,a3⟩:=hp.cells (show 2*i<2*k by omega);obtain⟨b1,b2,b3⟩:=hp.cells (show 2*i+1<2*k by omega);unfold prX at a1 a2 a3 b1 b2 b3;rw[if_pos (by omega)] at a1 a2 a3 b1 b2 b3;rw[show 2*i*3=i*6 by omega] at a1 a2 a3;rw[show(2*i+1)*3=i*6+3 by omega] at b1 b2 b3;have m1:R.getD (2*i) tp0∈R:=by rw[List.getD,qE l1];exact List.getElem_mem l1
      have m2:R.getD (2*i+1) tp0∈R:=by rw[List.getD,qE l2];exact List.getElem_mem l2
      exact⟨_,_,_,_,rfl,HB.out,hp.lt,⟨a1,a2,a3⟩,⟨b1,b2,b3⟩,(HA.out.2 _ m1).below HBB.out,(HA.out.2 _ m2).below HBB.out⟩
def mr2(L P:List Tp):List Tp:=match L,P with
 |[],P=>P
 |l::L,[]=>l::L
 |l::L,p::P=>if p.1.wt<l.1.wt then p::mr2 (l::L) P else l::mr2 L (p::P)
termination_by L.length+P.length
theorem z2i(P:List Tp):mr2 [] P=P:=by rw[mr2]
theorem z2I(L:List Tp):mr2 L []=L:=by cases L<;>rw[mr2]
theorem z2K(l p:Tp)(L P:List Tp):mr2 (l::L) (p::P)=if p.1.wt<l.1.wt then p::mr2 (l::L) P else l::mr2 L (p::P):=by rw[mr2]
theorem z3c:∀ (L P:List Tp),(mr2 L P).map (·.1)=mrg (L.map (·.1)) (P.map (·.1))
 |[],P=>by rw[z2i,List.map_nil,z4U]
 |l::L,[]=>by rw[z2I,List.map_nil,z1p]
 |l::L,p::P=>by
  rw[z2K,List.map_cons,List.map_cons,z1V];by_cases h:p.1.wt<l.1.wt
  · rw[if_pos h,if_pos h,List.map_cons,z3c (l::L) P,List.map_cons]
  · rw[if_neg h,if_neg h,List.map_cons,z3c L (p::P),List.map_cons]
termination_by L P=>L.length+P.length
theorem z4W(x:Tp):∀ (L P:List Tp),x∈mr2 L P→x∈L∨x∈P
 |[],P,h=>by rw[z2i] at h;exact .inr h
 |l::L,[],h=>by rw[z2I] at h;exact .inl h
 |l::L,p::P,h=>by
  rw[z2K] at h;by_cases q:p.1.wt<l.1.wt
  · rw[if_pos q] at h
    rcases List.mem_cons.1 h with rfl|h
    · exact .inr List.mem_cons_self
    · rcases z4W x (l::L) P h with h|h
      · exact .inl h
      · exact .inr (List.mem_cons_of_mem _ h)
  · rw[if_neg q] at h
    rcases List.mem_cons.1 h with rfl|h
    · exact .inl List.mem_cons_self
    · rcases z4W x L (p::P) h with h|h
      · exact .inl (List.mem_cons_of_mem _ h)
      · exact .inr h
termination_by L P=>L.length+P.length
theorem z0z(L P:List Tp):(mr2 L P).length=L.length+P.length:=by
 have:=congrArg List.length (z3c L P);rw[List.length_map,z0r,List.length_map,List.length_map] at this;exact this
theorem z4X{L P:List Tp}{l p:Tp}{i j:Nat}(hl:L[i]? =some l)(hp:P[j]? =some p)(h:p.1.wt<l.1.wt):mr2 (L.drop i) (P.drop j)=p::mr2 (L.drop i) (P.drop (j+1)):=by
 obtain⟨hi,rfl⟩:=List.getElem?_eq_some_iff.1 hl;obtain⟨hj,rfl⟩:=List.getElem?_eq_some_iff.1 hp;rw[List.drop_eq_getElem_cons hi,List.drop_eq_getElem_cons hj,z2K,if_pos h]
theorem z2J{L P:List Tp}{l:Tp}{i j:Nat}(hl:L[i]? =some l)(h:∀p,P[j]? =some p→¬p.1.wt<l.1.wt):mr2 (L.drop i) (P.drop j)=l::mr2 (L.drop (i+1)) (P.drop j):=by
 obtain⟨hi,rfl⟩:=List.getElem?_eq_some_iff.1 hl;rw[List.drop_eq_getElem_cons hi];by_cases hj:j<P.length
 · rw[List.drop_eq_getElem_cons hj,z2K,if_neg (h _ (qE hj))]
 · rw[show P.drop j=[] from List.drop_eq_nil_of_le (by omega),z2I,z2I]
theorem zb1(A:Option Addr)(n c base g np:Nat)(L P:List Tp)(W:World)(hl:L.length=n)(hlp:P.length=np)(hn:n≤400)(hnp:np≤600)(HL:z0p W base A L)(HP:z0p W base (some ⟨g,0,none⟩) P)
 (wl:∀x∈L,x.1.wt≤1125899906842624) (wp:∀x∈P,x.1.wt≤1125899906842624):
 Calls Tryz.prog 167 #[.slice A n c,.slice (some ⟨g,0,none⟩) np np] W fun x w'=> ∃A' cap,x=.returned (.slice A' (n+np) cap)∧z0p w' base A' (mr2 L P)∧(∀b o,A'=some ⟨b,o,none⟩→W.heap.size≤b)∧(n+np≤cap)∧Below W.heap.size W w':=by
 obtain⟨s,hs⟩:∃s,n+np=s:=⟨_,rfl⟩
 have e1:(n:Int)+(np:Int)=(s:Int):=by omega
 have m1:∀w,(Instr.makeSlice 234 (.int .i64 0) (.int .i64 (s:Int))).run Tryz.prog w=.ok (.slice (some ⟨w.heap.size,0,none⟩) 0 s) (w.alloc (.cells (madeCells #[.int .u64 0,.int .i64 0,.pointer none] (s*3)) 238)):=fun w=>
  z1T w Tryz.underlying234 z2X (by decide) 0 s qZ (by omega)
 have KL:=hid HL;have KP:=hid HP;have NL:=hid hl;have NP:=hid hlp;have WL:=hid wl;have WP:=hid wp;have HS:=hid hs;have hs1:s≤1000:=by omega
 clear HL HP hl hlp wl wp hs;go_enter Tryz.func167,Tryz.ntmps167;go_wp2_with fail;clear m1;have HO:Hid (Ow W.heap.size (W.alloc (.cells (madeCells #[.int .u64 0,.int .i64 0,.pointer none] (s*3)) 238)) (.slice (some ⟨W.heap.size,0,none⟩) 0 s) (([]:List Tp).map tr)):=hid (World.ownsRow_made W _ s qR (by unfold maxLen;omega) (size_madeCells _ _))
 go_loopw [16,5,1] (fun x v pv wr=> ∃ (i j r oj:Nat) (acc:List Tp),x=.int .i64 i∧pv=.slice (some ⟨g,oj,none⟩) r r∧i≤n∧j+r=np∧Hid ((0<r→oj=j*3)∧Ow W.heap.size wr v (acc.map tr)∧acc++mr2 (L.drop i) (P.drop j)=mr2 L P∧Below W.heap.size W wr)) (fun x _ _ _=>n - (intOf x).toNat)
 case atStart=>exact⟨0,0,np,0,[],rfl,rfl,qZ,by omega,hid ⟨fun _=>rfl,HO.out,rfl,qL⟩⟩
 case round=>
  obtain⟨i,j,r,oj,acc,rfl,rfl,q1,q2,HB⟩:=hrel;by_cases c1:i<n
  · have hln:=NL.out
    obtain⟨b,o,rfl,hbs,ht⟩:=KL.out.1 (by omega);have li:i<L.length:=by omega
    obtain⟨x,hx⟩:∃x,L[i]? =some x:=⟨_,qE li⟩
    obtain⟨x1,x2,x3⟩:=ht.one hx;have hwx:=WL.out x (List.mem_of_getElem? hx);have hb:=HB.out.2.2.2;have x1:=(hb.cell hbs).trans x1;have x2:=(hb.cell hbs).trans x2;have x3:=(hb.cell hbs).trans x3;obtain⟨xw,hxw⟩:∃t,x.1.wt=t:=⟨_,rfl⟩
    obtain⟨xs,hxs⟩:∃t,x.1.sy=t:=⟨_,rfl⟩
    obtain⟨xp,hxp⟩:∃t,x.2=t:=⟨_,rfl⟩
    rw[hxw] at x1 hwx;rw[hxs] at x2;rw[hxp] at x3;have HX:=hid (And.intro hx (And.intro hxw (And.intro hxs hxp)));have hsz:=hb.size;obtain⟨B0,hB0⟩:∃B0,wr.heap.size=B0:=⟨_,rfl⟩
    have HB0:=hid hB0;clear ht hln li hx hxw hxs hxp hb;go_wp2_with fail;clear hB0;clear x1 x2 x3
    go_loopw [5,1] (fun v pv ws=> ∃ (j r oj:Nat) (acc:List Tp),pv=.slice (some ⟨g,oj,none⟩) r r∧j+r=np∧ws.cell? ⟨B0,0,none⟩=some (.int .u64 xw)∧ws.cell? ⟨B0,1,none⟩=some (.int .i64 xs)∧ws.cell? ⟨B0,2,none⟩=some (.pointer xp)∧
     Hid ((0<r→oj=j*3)∧Ow W.heap.size ws v (acc.map tr)∧acc++mr2 (L.drop i) (P.drop j)=mr2 L P∧Below W.heap.size W ws∧v.ownBlock≠some B0∧B0<ws.heap.size∧acc.length≤1000)) (fun _ pv _=>match pv with|.slice _ r _=>r|_=>0)
    case atStart=>
     refine⟨j,r,oj,acc,rfl,q2,by have:=HB0.out;subst this;simp,by have:=HB0.out;subst this;simp,by have:=HB0.out;subst this;simp,hid ⟨HB.out.1,HB.out.2.1.alloc _,HB.out.2.2.1,HB.out.2.2.2.alloc HB.out.2.2.2.size _,fun e=> ?_,by have:=HB0.out;simp;omega,?_⟩⟩
     · have:=(HB.out.2.1.lt _ e).2
       have:=HB0.out;omega
     · have:=congrArg List.length HB.out.2.2.1
       rw[qA,z0z L P,NL.out,NP.out] at this;have:=HS.out;omega
    case round=>
     obtain⟨j,r,oj,acc,rfl,q2,b1,b2,b3,HB2⟩:=hrel;by_cases c2:0<r
     · have hpn:=NP.out
       obtain⟨g',o',hg',hgs,ht⟩:=KP.out.1 (by omega);obtain⟨rfl,rfl⟩:g=g'∧o'=0:=by simp at hg';exact⟨hg'.1,hg'.2.symm⟩
       obtain⟨p,hp⟩:∃p,P[j]? =some p:=⟨_,qE (show j<P.length by omega)⟩
       obtain⟨y1,y2,y3⟩:=ht.one hp;have hoj:=HB2.out.1 c2;rw[Nat.zero_add,←hoj] at y1 y2 y3;have hwy:=WP.out p (List.mem_of_getElem? hp);have hb:=HB2.out.2.2.2.1;have y1:=(hb.cell hgs).trans y1;have y2:=(hb.cell hgs).trans y2;have y3:=(hb.cell hgs).trans y3;obtain⟨yw,hyw⟩:∃t,p.1.wt=t:=⟨_,rfl⟩
       obtain⟨ys,hys⟩:∃t,p.1.sy=t:=⟨_,rfl⟩
       obtain⟨yp,hyp⟩:∃t,p.2=t:=⟨_,rfl⟩
       rw[hyw] at y1 hwy;rw[hys] at y2;rw[hyp] at y3;have HY:=hid (And.intro hp (And.intro hyw (And.intro hys hyp)));have HOJ:=hid hoj;have hsz2:=hb.size;clear ht hpn hp hyw hys hyp hb hoj hg';clear x1 x2 x3;by_cases c3:yw<xw
       · by_cases c4:1=r
         · subst c4
           go_wp2_with fail
           go_quiet (fail)
           have HO2:=hid (show Ow W.heap.size ((wr.drewN nq).alloc (.cells #[.int .u64 yw,.int .i64 ys,.pointer yp] 238)) _ (acc.map tr) from(HB2.out.2.1.drewN nq).alloc _);have HT2:=hid (z39 (wr.drewN nq) yw ys yp);have HS2:=hid (show W.heap.size≤((wr.drewN nq).alloc (.cells #[.int .u64 yw,.int .i64 ys,.pointer yp] 238)).heap.size by simp;omega);have HM2:=hid (show(acc.map tr).length+1≤2000 by have:=HB2.out.2.2.2.2.2.2;rw[List.length_map];omega);go_wp2_with (at_builtin;refine z0T rfl _ _ rfl W.heap.size _ (acc.map tr) [(yw,ys,yp)] rfl HO2.out _ 0 1 _ rfl rfl HT2.out HM2.out HS2.out ?_;intro v2 w2 o2 g2 d2 k2;have O2:=hid o2;have G2:=hid g2;have D2:=hid d2;have K2:=hid k2;have b1':=((World.cell?_of_block (a:=⟨B0,0,none⟩) (g2.block B0 (by have:=HB2.out.2.2.2.2.2.1;simp;omega) (fun e=>HB2.out.2.2.2.2.1 e.symm))).trans (((Below.refl (wr.drewN nq).heap.size (wr.drewN nq)).alloc qR _).cell (by have:=HB2.out.2.2.2.2.2.1;simp;omega))).trans b1;have b2':=((World.cell?_of_block (a:=⟨B0,1,none⟩) (g2.block B0 (by have:=HB2.out.2.2.2.2.2.1;simp;omega) (fun e=>HB2.out.2.2.2.2.1 e.symm))).trans (((Below.refl (wr.drewN nq).heap.size (wr.drewN nq)).alloc qR _).cell (by have:=HB2.out.2.2.2.2.2.1;simp;omega))).trans b2;have b3':=((World.cell?_of_block (a:=⟨B0,2,none⟩) (g2.block B0 (by have:=HB2.out.2.2.2.2.2.1;simp;omega) (fun e=>HB2.out.2.2.2.2.1 e.symm))).trans (((Below.refl (wr.drewN nq).heap.size (wr.drewN nq)).alloc qR _).cell (by have:=HB2.out.2.2.2.2.2.1;simp;omega))).trans b3;clear o2 g2 d2 k2);go_roundw
           case rel=>
            obtain⟨a1,a2,a3,a4,a5,a6,a7⟩:=HB2.out;obtain⟨p1,p2,p3,p4⟩:=HY.out;obtain⟨l1,l2,l3,l4⟩:=HX.out;have hoj:=HOJ.out
            have hq:acc++[p]++mr2 (L.drop i) (P.drop (j+1))=mr2 L P:=by
             rw[qD,List.singleton_append,←z4X l1 p1 (by rw[p2,l2];exact c3)];exact a3
            refine⟨j+1,0,oj,acc++[p],rfl,by omega,b1',b2',b3',hid ⟨fun h=>by omega,?_,hq,((z00 a4 nq).alloc (by have:=a4.size;simpa using this) _).trans D2.out,fun e=> ?_,?_,?_⟩⟩
            · have:=O2.out
              rw[List.map_append];show Ow W.heap.size w2 v2 (acc.map tr++[(p.1.wt,p.1.sy,p.2)])
              rw[p2,p3,p4];exact this
            · rcases K2.out with h|h
              · rw[h] at e;exact a5 e
              · rw[h] at e
                have:=Option.some.inj e;simp at this;omega
            · have:=G2.out.size
              simp at this;omega
            · have h1:=congrArg List.length hq
              rw[qA,z0z L P,NL.out,NP.out] at h1;have:=HS.out;omega
           case measure=>simp<;>omega
         · have c5:¬r=1:=fun e=>c4 e.symm
           have v1:(r:Int) - 1=((r - 1:Nat):Int):=by omega
           go_wp2_with fail
           go_quiet (fail)
           have HO2:=hid (show Ow W.heap.size ((wr.drewN nq).alloc (.cells #[.int .u64 yw,.int .i64 ys,.pointer yp] 238)) _ (acc.map tr) from(HB2.out.2.1.drewN nq).alloc _);have HT2:=hid (z39 (wr.drewN nq) yw ys yp);have HS2:=hid (show W.heap.size≤((wr.drewN nq).alloc (.cells #[.int .u64 yw,.int .i64 ys,.pointer yp] 238)).heap.size by simp;omega);have HM2:=hid (show(acc.map tr).length+1≤2000 by have:=HB2.out.2.2.2.2.2.2;rw[List.length_map];omega);go_wp2_with (at_builtin;refine z0T rfl _ _ rfl W.heap.size _ (acc.map tr) [(yw,ys,yp)] rfl HO2.out _ 0 1 _ rfl rfl HT2.out HM2.out HS2.out ?_;intro v2 w2 o2 g2 d2 k2;have O2:=hid o2;have G2:=hid g2;have D2:=hid d2;have K2:=hid k2;have b1':=((World.cell?_of_block (a:=⟨B0,0,none⟩) (g2.block B0 (by have:=HB2.out.2.2.2.2.2.1;simp;omega) (fun e=>HB2.out.2.2.2.2.1 e.symm))).trans (((Below.refl (wr.drewN nq).heap.size (wr.drewN nq)).alloc qR _).cell (by have:=HB2.out.2.2.2.2.2.1;simp;omega))).trans b1;have b2':=((World.cell?_of_block (a:=⟨B0,1,none⟩) (g2.block B0 (by have:=HB2.out.2.2.2.2.2.1;simp;omega) (fun e=>HB2.out.2.2.2.2.1 e.symm))).trans (((Below.refl (wr.drewN nq).heap.size (wr.drewN nq)).alloc qR _).cell (by have:=HB2.out.2.2.2.2.2.1;simp;omega))).trans b2;have b3':=((World.cell?_of_block (a:=⟨B0,2,none⟩) (g2.block B0 (by have:=HB2.out.2.2.2.2.2.1;simp;omega) (fun e=>HB2.out.2.2.2.2.1 e.symm))).trans (((Below.refl (wr.drewN nq).heap.size (wr.drewN nq)).alloc qR _).cell (by have:=HB2.out.2.2.2.2.2.1;simp;omega))).trans b3;clear o2 g2 d2 k2);go_roundw
           case rel=>
            obtain⟨a1,a2,a3,a4,a5,a6,a7⟩:=HB2.out;obtain⟨p1,p2,p3,p4⟩:=HY.out;obtain⟨l1,l2,l3,l4⟩:=HX.out;have hoj:=HOJ.out
            have hq:acc++[p]++mr2 (L.drop i) (P.drop (j+1))=mr2 L P:=by
             rw[qD,List.singleton_append,←z4X l1 p1 (by rw[p2,l2];exact c3)];exact a3
            refine⟨j+1,r - 1,oj+3,acc++[p],by simp,by omega,b1',b2',b3',hid ⟨fun h=>by omega,?_,hq,((z00 a4 nq).alloc (by have:=a4.size;simpa using this) _).trans D2.out,fun e=> ?_,?_,?_⟩⟩
            · have:=O2.out
              rw[List.map_append];show Ow W.heap.size w2 v2 (acc.map tr++[(p.1.wt,p.1.sy,p.2)])
              rw[p2,p3,p4];exact this
            · rcases K2.out with h|h
              · rw[h] at e;exact a5 e
              · rw[h] at e
                have:=Option.some.inj e;simp at this;omega
            · have:=G2.out.size
              simp at this;omega
            · have h1:=congrArg List.length hq
              rw[qA,z0z L P,NL.out,NP.out] at h1;have:=HS.out;omega
           case measure=>simp<;>omega
       · have d3:decide (yw<xw)=false:=qF c3
         have HE:=hid (show acc++[x]++mr2 (L.drop (i+1)) (P.drop j)=mr2 L P by
          rw[qD,List.singleton_append,←z2J HX.out.1 (fun p' hp'=>by
          rw[HY.out.1] at hp';obtain rfl:=Option.some.inj hp';rw[HY.out.2.1,HX.out.2.1];exact c3)];exact HB2.out.2.2.1)
         go_wp2_with fail
         go_quiet (fail)
         have HO2:=hid (show Ow W.heap.size ((wr.drewN nq).alloc (.cells #[.int .u64 xw,.int .i64 xs,.pointer xp] 238)) _ (acc.map tr) from(HB2.out.2.1.drewN nq).alloc _);have HT2:=hid (z39 (wr.drewN nq) xw xs xp);have HS2:=hid (show W.heap.size≤((wr.drewN nq).alloc (.cells #[.int .u64 xw,.int .i64 xs,.pointer xp] 238)).heap.size by have:=HB2.out.2.2.2.1.size;simp;omega);have HM2:=hid (show(acc.map tr).length+1≤2000 by have:=HB2.out.2.2.2.2.2.2;rw[List.length_map];omega);go_wp2_with (at_builtin;refine z0T rfl _ _ rfl W.heap.size _ (acc.map tr) [(xw,xs,xp)] rfl HO2.out _ 0 1 _ rfl rfl HT2.out HM2.out HS2.out ?_;intro v2 w2 o2 g2 d2 k2;have O2:=hid o2;have D2:=hid d2;clear o2 g2 d2 k2);go_roundw
         case rel=>
          obtain⟨a1,a2,a3,a4,a5,a6,a7⟩:=HB2.out;obtain⟨l1,l2,l3,l4⟩:=HX.out;refine⟨i+1,j,r,oj,acc++[x],by go_num,rfl,by omega,q2,hid ⟨a1,?_,HE.out,((z00 a4 nq).alloc (by have:=a4.size;simpa using this) _).trans D2.out⟩⟩;have:=O2.out;rw[List.map_append];show Ow W.heap.size w2 v2 (acc.map tr++[(x.1.wt,x.1.sy,x.2)])
          rw[l2,l3,l4];exact this
         case measure=>simp[intOf];omega
     · obtain rfl:r=0:=by omega
       have HE:=hid (show acc++[x]++mr2 (L.drop (i+1)) (P.drop j)=mr2 L P by
        rw[qD,List.singleton_append,←z2J HX.out.1 (fun p' hp'=>by
        have hpn:=NP.out;rw[List.getElem?_eq_none (by omega)] at hp';cases hp')];exact HB2.out.2.2.1)
       go_wp2_with fail
       go_quiet (fail)
       have HO2:=hid (show Ow W.heap.size ((wr.drewN nq).alloc (.cells #[.int .u64 xw,.int .i64 xs,.pointer xp] 238)) _ (acc.map tr) from(HB2.out.2.1.drewN nq).alloc _);have HT2:=hid (z39 (wr.drewN nq) xw xs xp);have HS2:=hid (show W.heap.size≤((wr.drewN nq).alloc (.cells #[.int .u64 xw,.int .i64 xs,.pointer xp] 238)).heap.size by have:=HB2.out.2.2.2.1.size;simp;omega);have HM2:=hid (show(acc.map tr).length+1≤2000 by have:=HB2.out.2.2.2.2.2.2;rw[List.length_map];omega);go_wp2_with (at_builtin;refine z0T rfl _ _ rfl W.heap.size _ (acc.map tr) [(xw,xs,xp)] rfl HO2.out _ 0 1 _ rfl rfl HT2.out HM2.out HS2.out ?_;intro v2 w2 o2 g2 d2 k2;have O2:=hid o2;have D2:=hid d2;clear o2 g2 d2 k2);go_roundw
       case rel=>
        obtain⟨a1,a2,a3,a4,a5,a6,a7⟩:=HB2.out;obtain⟨l1,l2,l3,l4⟩:=HX.out;refine⟨i+1,j,0,oj,acc++[x],by go_num,rfl,by omega,q2,hid ⟨a1,?_,HE.out,((z00 a4 nq).alloc (by have:=a4.size;simpa using this) _).trans D2.out⟩⟩;have:=O2.out;rw[List.map_append];show Ow W.heap.size w2 v2 (acc.map tr++[(x.1.wt,x.1.sy,x.2)])
        rw[l2,l3,l4];exact this
       case measure=>simp[intOf];omega
  · obtain rfl:i=n:=by omega
    have HT2:=hid (show Trs wr g oj ((P.drop j).map tr) by
     have hpn:=NP.out;by_cases c2:0<r
     · obtain⟨g',o',hg',hgs,ht⟩:=KP.out.1 (by omega)
       obtain⟨rfl,rfl⟩:g=g'∧o'=0:=by simp at hg';exact⟨hg'.1,hg'.2.symm⟩
       have:=(ht.below hgs HB.out.2.2.2).drop j;rw[Nat.zero_add,←HB.out.1 c2,←List.map_drop] at this;exact this
     · rw[List.drop_eq_nil_of_le (by omega)]
       intro i t h;simp at h)
    have HE:=hid (show acc++P.drop j=mr2 L P by
     have:=HB.out.2.2.1;rw[List.drop_eq_nil_of_le (by rw[NL.out];exact qR),z2i] at this;exact this)
    have HR:=hid (show((P.drop j).map tr).length=r by rw[List.length_map,List.length_drop,NP.out];omega)
    have HM2:=hid (show(acc.map tr).length+((P.drop j).map tr).length≤2000 by
     have:=congrArg List.length HE.out;rw[qA,z0z L P,NL.out,NP.out] at this;rw[List.length_map,List.length_map];have:=HS.out;omega)
    have HS2:=hid HB.out.2.2.2.size;have HO2:=hid HB.out.2.1;go_wp2_with (at_builtin;refine z0T rfl _ _ rfl W.heap.size _ (acc.map tr) ((P.drop j).map tr) rfl HO2.out g oj r r rfl HR.out HT2.out HM2.out HS2.out ?_;intro v2 w2 o2 g2 d2 k2;have O2:=hid o2;have D2:=hid d2;clear o2 g2 d2 k2);go_ret;have o2:=O2.out;rw[←List.map_append,HE.out] at o2;have hlen:((mr2 L P).map tr).length=i+np:=by rw[List.length_map,z0z,NL.out,NP.out]
    have hb:=HB.out.2.2.2.trans D2.out
    have hung:∀x∈mr2 L P,z8w w2 base x.1 x.2:=fun x hx=>by
     rcases z4W x L P hx with h|h
     · exact(KL.out.2 x h).below hb
     · exact(KP.out.2 x h).below hb
    rcases o2.form with⟨h1,h2⟩|⟨g',cap,h1,h2,h3⟩
    · have h0:i+np=0:=by rw[←hlen,h2];rfl
      refine⟨none,0,by rw[h0,←h1];rfl,⟨fun h=> ?_,hung⟩,(fun b o e=>by cases e),by omega,hb⟩;rw[List.length_map] at hlen;omega
    · rw[hlen] at h1
      subst h1;refine⟨_,cap,rfl,⟨fun _=>⟨g',0,rfl,h3,o2.trs⟩,hung⟩,fun b o e=> ?_,o2.cap.2.1,hb⟩;simp at e;omega
theorem z7z(L:List Th):∀k,(row L k).length≤2*L.length
 |0=>by simp[row]
 |k+1=>by rw[z48];have:=z7z L k;omega
theorem z7x{L:List Th}{M:Nat}(h:∀t∈L,t.wt≤M):∀k,∀t∈row L (k+1),t.wt≤M*2^k
 |0,t,ht=>by rw[z6B] at ht;simpa using h t ht
 |k+1,t,ht=>by
  have ih:=z7x h k;rcases(z4V t _ _).1 ht with g|g
  · exact qK (h t g) (Nat.le_mul_of_pos_right _ (Nat.two_pow_pos _))
  · have key:∀ (R:List Th),(∀u∈R,u.wt≤M*2^k)→∀u∈pks R,u.wt≤M*2^(k+1):=by
     intro R
     induction R using pks.induct with
     |case1 c d r ih2=>
      intro hr u hu;rcases List.mem_cons.1 hu with rfl|hu
      · have h1:=hr c (by simp);have h2:=hr d (by simp)
        simp only[Th.wt];rw[Nat.pow_succ,←Nat.mul_assoc];omega
      · exact ih2 (fun t ht=>hr t (by simp[ht])) u hu
     |case2 r hr=>intro _ u hu;unfold pks at hu;split at hu;exact absurd rfl (hr _ _ _);cases hu
    exact key _ ih t g
def Far(A:Option Addr)(B:Nat)(A':Option Addr):Prop:=A'=A∨∀b o,A'=some ⟨b,o,none⟩→B≤b
def ziz(W:World)(A:Option Addr)(L:List Tp)(K:Nat)(x:Ending)(w':World):Prop:=
 ∃A' n' cap X,x=.returned (.slice A' n' cap)∧X.length=n'∧n'≤cap∧X.map (·.1)=row (L.map (·.1)) K∧z0p w' W.heap.size A' X∧Far A W.heap.size A'∧Below W.heap.size W w'
theorem zab(A:Option Addr)(n c K:Nat)(L:List Tp)(W:World)(hl:L.length=n)(hn:n≤320)(hnc:n≤c)(h1:1≤K)(h2:K≤15)(HL:z0p W W.heap.size A L)(wl:∀x∈L,x.1.wt≤1073741824):
 Calls Tryz.prog 148 #[.slice A n c,.int .i64 K] W (ziz W A L K):=by
 have e1:(K:Int) - 1=((K - 1:Nat):Int):=by omega
 obtain⟨z,hz⟩:∃z,K - 1=z:=⟨_,rfl⟩
 rw[hz] at e1;have HZ:=hid hz;have NL:=hid hl;have KL:=hid HL;have WL:=hid wl;clear hz hl HL wl;go_enter Tryz.func148,Tryz.ntmps148;go_wp2_with fail
 go_loopw [5,9] (fun v i wr=> ∃ (j:Nat) (A':Option Addr) (n' cap:Nat) (X:List Tp),i=.int .i64 j∧v=.slice A' n' cap∧j≤z∧n'≤640∧n'≤cap∧Hid (X.length=n'∧X.map (·.1)=row (L.map (·.1)) (j+1)∧z0p wr W.heap.size A' X∧Far A W.heap.size A'∧Below W.heap.size W wr)) (fun _ i _=>z - (intOf i).toNat)
 case atStart=>exact⟨0,A,n,c,L,rfl,rfl,qZ,by omega,hnc,hid ⟨NL.out,(z6B _).symm,KL.out,.inl rfl,Below.refl _ _⟩⟩
 case round=>
  obtain⟨j,A',n',cap,X,rfl,rfl,q1,q2,q3,HB⟩:=hrel;by_cases c1:j<z
  · have HWX:=hid (show ∀x∈X,x.1.wt≤1125899906842624/2 from fun x hx=>by
     have h3:x.1∈row (L.map (·.1)) (j+1):=by rw[←HB.out.2.1];exact List.mem_map_of_mem hx
     have h4:=z7x (M:=1073741824) (fun t ht=>by
      obtain⟨y,hy,rfl⟩:=List.mem_map.1 ht;exact WL.out y hy) j _ h3
     have hz:=HZ.out;have h5:1073741824*2^j≤1073741824*2^14:=Nat.mul_le_mul_left _ (Nat.pow_le_pow_right (by omega) (by omega));omega)
    have HR:=hid HB.out.1;have HT:=hid HB.out.2.2.1;have HS:=hid HB.out.2.2.2.2.size;go_wp2_with fail;refine(zdn A' n' cap W.heap.size X _ HR.out (by omega) HS.out (fun x hx=>by have:=HWX.out x hx;omega) HT.out).mono ?_;rintro x w1 ⟨g,gp,rfl,t1,b1⟩;have T1:=hid t1;have B1:=hid b1;have hnp:n' /2≤600:=by omega
    obtain⟨np,hnp'⟩:∃np,n' /2=np:=⟨_,rfl⟩
    rw[hnp'] at hnp ⊢;have HNP:=hid hnp';clear t1 b1 hnp';go_wp2_with fail
    refine(zb1 A n c W.heap.size g np L (pkt gp X) _ NL.out (by rw[z10,HR.out];exact HNP.out) (by omega) hnp (KL.out.below (HB.out.2.2.2.2.trans (B1.out.mono HS.out))) T1.out (fun x hx=>by have:=WL.out x hx;omega) (fun x hx=>by
     obtain⟨i,hi,rfl⟩:=List.getElem_of_mem hx;have hi':=hi;rw[z10] at hi';have e:=z7M gp X hi';rw[qE hi] at e;rw[Option.some.inj e];have l1:2*i<X.length:=by omega
     have l2:2*i+1<X.length:=by omega
     have m1:X.getD (2*i) tp0∈X:=by rw[List.getD,qE l1];exact List.getElem_mem l1
     have m2:X.getD (2*i+1) tp0∈X:=by rw[List.getD,qE l2];exact List.getElem_mem l2
     have:=HWX.out _ m1;have:=HWX.out _ m2;simp only[Th.wt];omega)).mono ?_;rintro x w2 ⟨A2,cap2,rfl,t2,a2,g2,b2⟩
    have F2:=hid (And.intro t2 (And.intro a2 b2));clear t2 a2 b2;obtain⟨n2,hn2⟩:∃n2,n+np=n2:=⟨_,rfl⟩
    rw[hn2] at g2 ⊢;have HN2:=hid hn2;clear hn2;go_wp2_with fail;go_roundw
    case rel=>
     obtain⟨t2,a2,b2⟩:=F2.out;have hnp:=HNP.out;have hn2:=HN2.out;have hx:=HR.out;refine⟨j+1,A2,n2,cap2,_,by go_num,rfl,by omega,by omega,g2,hid ⟨?_,?_,t2,?_,?_⟩⟩
     · rw[z0z,z10,NL.out];omega
     · rw[z3c,zg6,HB.out.2.1];rfl
     · exact .inr (fun b o e=>by have:=a2 b o e;have:=HS.out;have:=B1.out.size;omega)
     · exact(HB.out.2.2.2.2.trans (B1.out.mono HS.out)).trans (b2.mono (by have:=HS.out;have:=B1.out.size;omega))
    case measure=>simp[intOf];omega
  · obtain rfl:j=z:=by omega
    go_wp2_with fail;go_ret;obtain⟨a1,a2,a3,a4,a5⟩:=HB.out;have hz:=HZ.out;exact⟨_,_,_,_,rfl,a1,q3,by rw[a2,←hz];congr 1;omega,a3,a4,a5⟩
end Go.Proofs.YtacelhaidcmbcaaGreatDoor
