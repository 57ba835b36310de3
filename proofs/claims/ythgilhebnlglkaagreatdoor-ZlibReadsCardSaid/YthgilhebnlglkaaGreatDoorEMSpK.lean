import Derived.Test.YthgilhebnlglkaaGreatDoorEMBwG
import Derived.Test.YthgilhebnlglkaaGreatDoorEMT9Tok
import Derived.DeepKeys4
set_option linter.all false
set_option maxHeartbeats 8000000
set_option maxRecDepth 1000000
open Go.Proofs.Tryz
namespace Go.Proofs.YthgilhebnlglkaaGreatDoor.V
open Go Go.RowKit M U
noncomputable def kds(L:List Tk)(s:ByteArray):Nat->Nat×Nat
 |0=>(0,b3 L s 0)
 |j+1=>if b3 L s (j+1)<(kds L s j).2 then(j+1,b3 L s (j+1)) else kds L s j
theorem zhj(L:List Tk)(s:ByteArray):kds L s 2=kd L s:=by
 unfold kd;simp only[kds];by_cases h1:b3 L s 1<b3 L s 0
 · simp only[Nat.zero_add,h1,if_true]
 · simp only[Nat.zero_add,h1,if_false]
theorem zbq{L:List Tk}{s:ByteArray}(hs:s.size<=70000)(hn:L.length<=30000)(hm:∀t∈L,may t=true):∀j,(kds L s j).2<=20000000/\(kds L s j).1<=j
 |0=>⟨zcr hs hn hm,qR⟩
 |j+1=>by
  have ih:=zbq hs hn hm j;rw[kds]
  split
  · exact⟨by show b3 L s (j+1)<=_;omega,qR⟩
  · exact⟨ih.1,by omega⟩
def mys(L:List Tk)(s:ByteArray):Nat:=if L.all may=true then(if Tx.szs L=s.size then 0 else 7) else 2
end Go.Proofs.YthgilhebnlglkaaGreatDoor.V
namespace Go.Proofs.YthgilhebnlglkaaGreatDoor.V
open Go Go.RowKit M U
open Go.ChangeShapes Go.WideShapes Go.Deep
structure Pv where
 f:Nat
 t:Nat
 z:Nat
 k:Nat
deriving DecidableEq
instance:Inhabited Pv:=⟨⟨0,0,0,0⟩⟩
def clp:List Pv->List Value
 |[]=> []
 |q::l=> .int .i64 q.f::.int .i64 q.t::.int .i64 q.z::.int .u8 q.k::clp l
theorem z45:∀l r,clp (l++r)=clp l++clp r
 |[],r=>rfl
 |q::l,r=>by simp only[List.cons_append,clp,z45 l r]
theorem zfL:∀ (l:List Pv) (i:Nat) (q:Pv),l[i]? =some q->(clp l)[i*4]? =some (.int .i64 q.f)/\(clp l)[i*4+1]? =some (.int .i64 q.t)/\(clp l)[i*4+2]? =some (.int .i64 q.z)/\(clp l)[i*4+3]? =some (.int .u8 q.k)
 |[],i,q,h=>by simp at h
 |x::l,0,q,h=>by simp at h;subst h;exact⟨rfl,rfl,rfl,rfl⟩
 |x::l,i+1,q,h=>by
  simp at h;have ih:=zfL l i q h;rw[show(i+1)*4=i*4+1+1+1+1 by omega];exact ih
theorem zc5:∀ (l:List Pv),∀u∈clp l,u.oneCell'=true
 |[],u,h=>by simp[clp] at h
 |q::l,u,h=>by
  simp only[clp,List.mem_cons] at h;rcases h with rfl|rfl|rfl|rfl|h
  · rfl
  · rfl
  · rfl
  · rfl
  · exact zc5 l u h
def Owp(B:Nat)(w:World)(v:Value)(l:List Pv):Prop:=w.ownsRow B 102 4 v l.length (clp l)
theorem Owp.nil(B:Nat)(w:World):Owp B w (.slice none 0 0) []:=World.ownsRow_nil w B _ 4
theorem Owp.alloc{B:Nat}{w:World}{v:Value}{L:List Pv}(h:Owp B w v L)(o:Obj):Owp B (w.alloc o) v L:=World.ownsRow.alloc h o
theorem Owp.at{B:Nat}{w w':World}{v:Value}{L:List Pv}(h:Owp B w v L)(e:∀g,v.ownBlock=some g->w'.heap[g]? =w.heap[g]?):Owp B w' v L:=z0F h e
theorem Owp.lt{B:Nat}{w:World}{v:Value}{L:List Pv}(h:Owp B w v L):∀g,v.ownBlock=some g->B<=g/\g<w.heap.size:=World.ownsRow.lt h
theorem Owp.form{B:Nat}{w:World}{v:Value}{L:List Pv}(h:Owp B w v L)(hn:0<L.length):∃g c,v=.slice (some ⟨g,0,none⟩) L.length c/\L.length<=c:=by
 obtain⟨_,hh⟩:=h;rcases hh with⟨h1,h2⟩|⟨g,c,cs,h1,h2,h3,h4,h5,h6,h7⟩
 · omega
 · exact⟨g,c,h1,by omega⟩
theorem Owp.form'{B:Nat}{w:World}{v:Value}{L:List Pv}(h:Owp B w v L):∃A c,v=.slice A L.length c:=by
 obtain⟨_,hh⟩:=h;rcases hh with⟨h1,h2⟩|⟨g,c,cs,h1,h2,h3,h4,h5,h6,h7⟩
 · exact⟨none,0,by rw[h2,h1]⟩
 · exact⟨_,c,h1⟩
theorem Owp.cell{B:Nat}{w:World}{g n c:Nat}{L:List Pv}(h:Owp B w (.slice (some ⟨g,0,none⟩) n c) L){i:Nat}{q:Pv}(hn:L.length=n)(hi:L[i]? =some q):w.cell? ⟨g,i*4,none⟩=some (.int .i64 q.f)/\w.cell? ⟨g,i*4+1,none⟩=some (.int .i64 q.t)/\w.cell? ⟨g,i*4+2,none⟩=some (.int .i64 q.z)/\w.cell? ⟨g,i*4+3,none⟩=some (.int .u8 q.k):=by
 have hl:i<L.length:=(List.getElem?_eq_some_iff.1 hi).1;obtain⟨a1,a2,a3,a4⟩:=zfL L i q hi;unfold Owp at h;rw[hn] at h;exact⟨(h.cellAt (i*4) (by omega)).trans a1,(h.cellAt (i*4+1) (by omega)).trans a2,(h.cellAt (i*4+2) (by omega)).trans a3,(h.cellAt (i*4+3) (by omega)).trans a4⟩
theorem zdw:(prog.info? 102).map (λi=>(i.zero,i.size,i.bytes))=some (some (.agg #[.int .i64 0,.int .i64 0,.int .i64 0,.int .u8 0]),4,32):=by kernel_rfl
theorem zdS{w:World}{b:Nat}{q:Pv}(hc:w.cell? ⟨b,0,none⟩=some (.int .i64 q.f)/\w.cell? ⟨b,1,none⟩=some (.int .i64 q.t)/\w.cell? ⟨b,2,none⟩=some (.int .i64 q.z)/\w.cell? ⟨b,3,none⟩=some (.int .u8 q.k)):∀j u,(clp [q])[j]? =some u->w.cell? ((⟨b,0,none⟩:Addr).add j)=some u:=λj u hu=>by
 rw[cadd_at]
 match j,hu with
 |0,hu=>simp[clp] at hu;subst hu;simpa using hc.1
 |1,hu=>simp[clp] at hu;subst hu;simpa using hc.2.1
 |2,hu=>simp[clp] at hu;subst hu;simpa using hc.2.2.1
 |3,hu=>simp[clp] at hu;subst hu;simpa using hc.2.2.2
 |(k+4),hu=>simp[clp] at hu
theorem z0j.sub{w:World}{A:Option Addr}{n c:Nat}{L:List Tk}(h:z0j w A n L)(hc:n<=c){f t:Nat}(hf:f<=t)(ht:t<=n):
 z0j w (if c=f then A else Option.map (λx=>x.add (f*3)) A) (t - f) (seg L f t):=by
 refine⟨by rw[z3V (by have:=h.leng;omega)],by have:=h.most;omega,λx hx=>h.good x (z4n hx),?_⟩;by_cases h0:t - f=0
 · exact .inl h0
 · right
   rcases h.cells with q|⟨b,o,rfl,hb,hcs⟩
   · omega
   · rw[if_neg (by omega)]
     refine⟨b,o+f*3,by simp[cadd_at],hb,λi x hx=> ?_⟩;have hx':L[f+i]? =some x:=by
      unfold seg at hx;rw[List.getElem?_take] at hx
      split at hx
      · rw[List.getElem?_drop] at hx;exact hx
      · cases hx
     have k:=hcs (f+i) x hx';have e:o+(f+i)*3=o+f*3+i*3:=(by omega);exact⟨by rw[<-e];exact k.l,by rw[<-e];exact k.n,by rw[<-e];exact k.d⟩
end Go.Proofs.YthgilhebnlglkaaGreatDoor.V
namespace Go.Proofs.YthgilhebnlglkaaGreatDoor.V
open Go Go.RowKit M U
noncomputable def pvo(L:List Tk)(s:ByteArray)(q:Nat×Nat):Pv:=⟨q.1,q.2,szt L q.2 - szt L q.1,(kp L s q.1 q.2).1⟩
noncomputable def pvs(L:List Tk)(s:ByteArray)(l:List (Nat×Nat)):List Pv:=l.map (pvo L s)
theorem z8M(L:List Tk)(s:ByteArray)(l r:List (Nat×Nat)):pvs L s (l++r)=pvs L s l++pvs L s r:=List.map_append
end Go.Proofs.YthgilhebnlglkaaGreatDoor.V
namespace Go.Proofs.YthgilhebnlglkaaGreatDoor.V
open Go Go.RowKit M U
open Go.ChangeShapes (lits)
theorem z0j.zero(w:World)(X:Option Addr):z0j w X 0 []:=⟨rfl,qZ,λc hc=>absurd hc (by simp),.inl rfl⟩
theorem zdF{L:List Tk}{s:ByteArray}:mys L s=0↔(∀t∈L,may t=true)/\Tx.szs L=s.size:=by
 unfold mys;by_cases h:L.all may=true
 · rw[if_pos h]
   rw[List.all_eq_true] at h;by_cases h2:Tx.szs L=s.size
   · rw[if_pos h2];exact⟨λ_=>⟨h,h2⟩,λ_=>rfl⟩
   · rw[if_neg h2];exact⟨λg=>absurd g (by decide),λg=>absurd g.2 h2⟩
 · rw[if_neg h]
   rw[List.all_eq_true] at h;exact⟨λg=>absurd g (by decide),λg=>absurd g.1 h⟩
theorem zjn:b3 [] ⟨#[]⟩ 0=40/\b3 [] ⟨#[]⟩ 1=10/\10<=b3 [] ⟨#[]⟩ 2:=by
 refine⟨?_,?_,?_⟩
 · unfold b3
   rw[z0S (by decide)];unfold blk;rw[if_pos rfl,z0g];rfl
 · unfold b3
   rw[z0S (by decide)];unfold blk;rw[if_neg (by decide),if_pos rfl];rfl
 · unfold b3
   rw[z0S (by decide)];unfold blk;rw[if_neg (by decide),if_neg (by decide),qA,qA];have:=zec [];omega
theorem zfz:kd [] ⟨#[]⟩=(1,10):=by
 obtain⟨h0,h1,h2⟩:=zjn;unfold kd;rw[if_pos (by omega),if_neg (by omega),h1]
theorem zgG:pvs [] ⟨#[]⟩ (pts [] ⟨#[]⟩)=[⟨0,0,0,1⟩]:=by
 rw[z6k [] _ (by simp)];have e:(kp [] ⟨#[]⟩ 0 0).1=1:=by
  unfold kp;rw[show seg [] 0 0=[] from rfl,show(⟨#[]⟩:ByteArray).extract (szt [] 0) (szt [] 0)=⟨#[]⟩ by simp[szt,Tx.szs];rfl,zfz]
 show[pvo [] ⟨#[]⟩ (0,0)]=_
 unfold pvo;simp only[e];rfl
end Go.Proofs.YthgilhebnlglkaaGreatDoor.V
namespace Go.Proofs.YthgilhebnlglkaaGreatDoor.V
open Go Go.RowKit M U
open Go.ChangeShapes Go.WideShapes Go.Deep
def Hb(w:World)(T:TypeId)(g:Nat)(cs:Array Value):Prop:=w.heap[g]? =some (.cells cs T (0,0))
section
variable {w w':World} {T:TypeId} {g:Nat} {cs:Array Value}
theorem Hb.new(w:World)(T:TypeId)(cs:Array Value):Hb (w.alloc (.cells cs T)) T w.heap.size cs:=heap_alloc_new _ _
theorem Hb.lt(h:Hb w T g cs):g<w.heap.size:=(qW.1 h).1
theorem Hb.of(h:Hb w T g cs)(e:w'.heap[g]? =w.heap[g]?):Hb w' T g cs:=e.trans h
theorem Hb.alloc(h:Hb w T g cs)(o:Obj):Hb (w.alloc o) T g cs:=(Below.heap_alloc w o g h.lt).trans h
theorem Hb.drew(h:Hb w T g cs):Hb w.drew T g cs:=h
theorem Hb.below(h:Hb w T g cs){B:Nat}(hb:Below B w w')(hB:g<B):Hb w' T g cs:=h.of (hb.block g hB)
theorem Hb.next(h:Hb w T g cs)(hb:Below w.heap.size w w'):Hb w' T g cs:=h.below hb h.lt
theorem Hb.kept{S:Nat->Prop}(h:Hb w T g cs)(hk:Kept S w w')(hS:¬S g):Hb w' T g cs:=h.of (hk.block g h.lt hS)
theorem Hb.cell(h:Hb w T g cs)(i:Nat){v:Value}(hv:cs[i]? =some v):w.cell? ⟨g,i,none⟩=some v:=by
 unfold Hb at h;rw[cell_of_row w _ _ _ _ _ h];exact hv
theorem Hb.free(h:Hb w T g cs)(i:Nat):w.frozen? ⟨g,i,none⟩=false:=by
 unfold Hb at h;simp[World.frozen?,h]
theorem Hb.set(h:Hb w T g cs)(i:Nat)(v:Value):Hb (w.setCell ⟨g,i,none⟩ v) T g (cs.setIfInBounds i v):=by
 unfold Hb at h ⊢;simp[World.setCell,Array.getElem?_modify,h]
theorem Hb.row(h:Hb w T g cs):w.heap[g]? =some (.cells cs T (0,0)):=h
theorem Hb.cell1{a:Value}(h:Hb w T g #[a]):w.cell? ⟨g,0,none⟩=some a:=h.cell 0 rfl
theorem Hb.cells2{a b:Value}(h:Hb w T g #[a,b]):w.cell? ⟨g,0,none⟩=some a/\w.cell? ⟨g,1,none⟩=some b:=⟨h.cell 0 rfl,h.cell 1 rfl⟩
theorem Hb.cells4{a b c d:Value}(h:Hb w T g #[a,b,c,d]):w.cell? ⟨g,0,none⟩=some a/\w.cell? ⟨g,1,none⟩=some b/\w.cell? ⟨g,2,none⟩=some c/\w.cell? ⟨g,3,none⟩=some d:=⟨h.cell 0 rfl,h.cell 1 rfl,h.cell 2 rfl,h.cell 3 rfl⟩
theorem Hb.put2{a a':Value}(h:Hb w T g #[a,a'])(b b':Value):Hb ((w.setCell ⟨g,0,none⟩ b).setCell ⟨g,1,none⟩ b') T g #[b,b']:=(h.set 0 b).set 1 b'
end
structure Pie where
 f:Nat
 t:Nat
 z:Nat
 k:Nat
deriving DecidableEq
instance:Inhabited Pie:=⟨⟨0,0,0,0⟩⟩
def z3F:List Pie->List Value
 |[]=> []
 |q::l=> .int .i64 q.f::.int .i64 q.t::.int .i64 q.z::.int .i64 q.k::z3F l
theorem z3k:∀l r,z3F (l++r)=z3F l++z3F r
 |[],r=>rfl
 |q::l,r=>by simp only[List.cons_append,z3F,z3k l r]
theorem zc7:∀ (l:List Pie) (i:Nat) (q:Pie),l[i]? =some q->(z3F l)[i*4]? =some (.int .i64 q.f)/\(z3F l)[i*4+1]? =some (.int .i64 q.t)/\(z3F l)[i*4+2]? =some (.int .i64 q.z)/\(z3F l)[i*4+3]? =some (.int .i64 q.k)
 |[],i,q,h=>by simp at h
 |x::l,0,q,h=>by simp at h;subst h;exact⟨rfl,rfl,rfl,rfl⟩
 |x::l,i+1,q,h=>by
  simp at h;have ih:=zc7 l i q h;rw[show(i+1)*4=i*4+1+1+1+1 by omega];exact ih
theorem z85:∀ (l:List Pie),∀u∈z3F l,u.oneCell'=true
 |[],u,h=>by simp[z3F] at h
 |q::l,u,h=>by
  simp only[z3F,List.mem_cons] at h;rcases h with rfl|rfl|rfl|rfl|h
  · rfl
  · rfl
  · rfl
  · rfl
  · exact z85 l u h
def z1p(B:Nat)(w:World)(v:Value)(l:List Pie):Prop:=w.ownsRow B 241 4 v l.length (z3F l)
theorem z1p.nil(B:Nat)(w:World):z1p B w (.slice none 0 0) []:=World.ownsRow_nil w B _ 4
theorem z1p.alloc{B:Nat}{w:World}{v:Value}{L:List Pie}(h:z1p B w v L)(o:Obj):z1p B (w.alloc o) v L:=World.ownsRow.alloc h o
theorem z1p.at{B:Nat}{w w':World}{v:Value}{L:List Pie}(h:z1p B w v L)(e:∀g,v.ownBlock=some g->w'.heap[g]? =w.heap[g]?):z1p B w' v L:=z0F h e
theorem z1p.lt{B:Nat}{w:World}{v:Value}{L:List Pie}(h:z1p B w v L):∀g,v.ownBlock=some g->B<=g/\g<w.heap.size:=World.ownsRow.lt h
theorem z1p.below{B:Nat}{w w':World}{v:Value}{L:List Pie}(h:z1p B w v L)(hb:Below w.heap.size w w'):z1p B w' v L:=h.at λg hg=>hb.block g (h.lt g hg).2
theorem z1p.low{B B':Nat}{w:World}{v:Value}{L:List Pie}(h:z1p B w v L)(hB:B'<=B):z1p B' w v L:=by
 obtain⟨h0,hh⟩:=h;refine⟨h0,?_⟩;rcases hh with⟨h1,h2⟩|⟨g,c,cs,h1,h2,r⟩
 · exact .inl ⟨h1,h2⟩
 · exact .inr ⟨g,c,cs,h1,qK hB h2,r⟩
theorem z1p.form{B:Nat}{w:World}{v:Value}{L:List Pie}(h:z1p B w v L)(hn:0<L.length):∃g c,v=.slice (some ⟨g,0,none⟩) L.length c/\L.length<=c:=by
 obtain⟨_,hh⟩:=h;rcases hh with⟨h1,h2⟩|⟨g,c,cs,h1,h2,h3,h4,h5,h6,h7⟩
 · omega
 · exact⟨g,c,h1,by omega⟩
theorem z1p.form'{B:Nat}{w:World}{v:Value}{L:List Pie}(h:z1p B w v L):∃A c,v=.slice A L.length c:=by
 obtain⟨_,hh⟩:=h;rcases hh with⟨h1,h2⟩|⟨g,c,cs,h1,h2,h3,h4,h5,h6,h7⟩
 · exact⟨none,0,by rw[h2,h1]⟩
 · exact⟨_,c,h1⟩
theorem z1p.cell{B:Nat}{w:World}{g n c:Nat}{L:List Pie}(h:z1p B w (.slice (some ⟨g,0,none⟩) n c) L){i:Nat}{q:Pie}(hn:L.length=n)(hi:L[i]? =some q):w.cell? ⟨g,i*4,none⟩=some (.int .i64 q.f)/\w.cell? ⟨g,i*4+1,none⟩=some (.int .i64 q.t)/\w.cell? ⟨g,i*4+2,none⟩=some (.int .i64 q.z)/\w.cell? ⟨g,i*4+3,none⟩=some (.int .i64 q.k):=by
 have hl:i<L.length:=(List.getElem?_eq_some_iff.1 hi).1;obtain⟨a1,a2,a3,a4⟩:=zc7 L i q hi;unfold z1p at h;rw[hn] at h;exact⟨(h.cellAt (i*4) (by omega)).trans a1,(h.cellAt (i*4+1) (by omega)).trans a2,(h.cellAt (i*4+2) (by omega)).trans a3,(h.cellAt (i*4+3) (by omega)).trans a4⟩
theorem zgP:(prog.info? 241).map (λi=>(i.zero,i.size,i.bytes))=some (some (.agg #[.int .i64 0,.int .i64 0,.int .i64 0,.int .i64 0]),4,32):=by kernel_rfl
theorem zbd{w:World}{b:Nat}{q:Pie}(hc:w.cell? ⟨b,0,none⟩=some (.int .i64 q.f)/\w.cell? ⟨b,1,none⟩=some (.int .i64 q.t)/\w.cell? ⟨b,2,none⟩=some (.int .i64 q.z)/\w.cell? ⟨b,3,none⟩=some (.int .i64 q.k)):∀j u,(z3F [q])[j]? =some u->w.cell? ((⟨b,0,none⟩:Addr).add j)=some u:=λj u hu=>by
 rw[cadd_at]
 match j,hu with
 |0,hu=>simp[z3F] at hu;subst hu;simpa using hc.1
 |1,hu=>simp[z3F] at hu;subst hu;simpa using hc.2.1
 |2,hu=>simp[z3F] at hu;subst hu;simpa using hc.2.2.1
 |3,hu=>simp[z3F] at hu;subst hu;simpa using hc.2.2.2
 |(k+4),hu=>simp[z3F] at hu
theorem z2N{ops:Array Oper}{rest:List Oper}{o:Oper}{a:Act}{w:World}{Q:Exit->Act->World->Prop}(hgd:o.guard=none)(s x:Operand)
 (ho:o.op=.call {callee:=.builtin .append,args:= #[s,x],argTypes:= #[248,248]}) (B:Nat) (v:Value) (L:List Pie) (hs:a.eval s=v) (h:z1p B w v L) (b c:Nat) (q:Pie)
 (hx:a.eval x=.slice (some ⟨b,0,none⟩) 1 c) (hc:w.cell? ⟨b,0,none⟩=some (.int .i64 q.f)/\w.cell? ⟨b,1,none⟩=some (.int .i64 q.t)/\w.cell? ⟨b,2,none⟩=some (.int .i64 q.z)/\w.cell? ⟨b,3,none⟩=some (.int .i64 q.k)) (hL:L.length<=1000000) (hB:B<=w.heap.size)
 (hK:∀v' w',z1p B w' v' (L++[q])->w.grownBy w' v.ownBlock->(∀g,v'.ownBlock=some g->v.ownBlock=some g\/w.heap.size<=g)->Below B w w'->wpList prog ops Q rest (a.put o.dst v') w'):wpList prog ops Q (o::rest) a w:=
 wpList_plain hgd λK hK'=>by
  obtain⟨i,h1,h2,h3,h4⟩:=info_of zgP
  obtain⟨v',w',r1,r2,r3,_,r5⟩:=run_append_own_at (P:= prog) w B 248 o.type 241 i _ 4 32 underlying248 h1 h2 h3 h4 rfl (by decide) v L.length (z3F L) h ⟨b,0,none⟩ 1 c (z3F [q]) rfl
   (zbd hc) (z85 _) (by unfold maxLen;omega) (by omega) hB
  unfold Oper.wp execOp;simp only[ho,resolve,invoke,builtin,Sem.run_bind,Sem.run_pure,Result.andThen_ok,List.map_toArray,List.map_cons,List.map_nil,hs,hx,r1];refine hK' _ _ (hK v' w' ?_ r3 (λg hg=>by rcases r5 with h|h;exact .inl (h▸hg);right;rw[h] at hg;injection hg with hg;omega) ((Below.refl _ w).grown r3 hB (λk hk=>(World.ownsRow.lt h k hk).1)));unfold z1p;rw[qA,z3k];exact r2
end Go.Proofs.YthgilhebnlglkaaGreatDoor.V
namespace Go.Proofs.YthgilhebnlglkaaGreatDoor.V
open Go Go.RowKit M U
theorem zbj:laidOutB prog=true:=by kernel_rfl
theorem zgO:(match prog.underlying 241 with|some (.array _ _)|some (.struct _)=>true|_=>false)=true:=by kernel_rfl
theorem zaI:Maps.Keyed prog 241 :=
 Maps.Keyed.of_law (deep_law_laid zbj (m:=4) (by omega) (of_decide_eq_true (by kernel_rfl)) (by kernel_rfl) zgO)
def zcB(a b c d:Nat):Value:=.agg #[.int .i64 a,.int .i64 b,.int .i64 c,.int .i64 d]
def pk(a b c d:Nat):Lit:=.string (keyBytes [.int .i64 a,.int .i64 b,.int .i64 c,.int .i64 d])
theorem zk2: prog.keyType 241 =true:=by kernel_rfl
theorem z7x: prog.cellsOf 241 =4:=by kernel_rfl
theorem z94: prog.cellsOf 3 =1:=by kernel_rfl
theorem zcM:∃d,prog.types.size=d+1:=⟨prog.types.size - 1,by have:(0:Nat)< prog.types.size:=of_decide_eq_true (by kernel_rfl);omega⟩
theorem z6y(a b c e:Int)(ha:(Lit.int .i64 a).wf=true)(hb:(Lit.int .i64 b).wf=true)(hc:(Lit.int .i64 c).wf=true)(he:(Lit.int .i64 e).wf=true):
 prog.keyLits (prog.types.size+1) 241 [.int .i64 a,.int .i64 b,.int .i64 c,.int .i64 e]=some [.int .i64 a,.int .i64 b,.int .i64 c,.int .i64 e]:=by
 obtain⟨d,hd⟩:=zcM;have e2:∀n:Int,(Lit.int .i64 n).wf=true-> prog.keyLits (d+1) 3 [.int .i64 n]=some [.int .i64 n]:=λn hn=>by
  simp[Program.keyLits,underlying3,hn]
 rw[hd,Program.keyLits.eq_def];simp only[underlying241];simp[z7x,z94,e2 a ha,e2 b hb,e2 c hc,e2 e he]
theorem z4w{a b c d:Nat}(ha:a<=9223372036854775807)(hb:b<=9223372036854775807)(hc:c<=9223372036854775807)(hd:d<=9223372036854775807):keyOf prog 241 (zcB a b c d)=some (pk a b c d):=by
 have hw:∀n:Nat,n<=9223372036854775807->(Lit.int .i64 (n:Int)).wf=true:=λn hn=>by simp[Lit.wf,IntKind.min,IntKind.max,IntKind.signed,IntKind.bits];omega
 have hf:(zcB a b c d).formed prog 241 =true:=(by simp[zcB,Value.formed,underlying241,z7x]);have hk:=z6y a b c d (hw a ha) (hw b hb) (hw c hc) (hw d hd);unfold keyOf;simp only[underlying241];rw[if_pos (by rw[zk2,hf];rfl)];show(prog.keyLits (prog.types.size+1) 241 [.int .i64 a,.int .i64 b,.int .i64 c,.int .i64 d]).map _=_
 rw[hk];rfl
theorem zdu{a b c d a' b' c' d':Nat}(h:zcB a b c d=zcB a' b' c' d'):a=a'/\b=b'/\c=c'/\d=d':=by
 unfold zcB at h;injection h with h
 simp at h;omega
theorem ziH(a b c d:Nat):WideAt.IsKeyLit (pk a b c d):=trivial
def chv(x:Nat×Nat):Value:=.agg #[.int .u8 x.1,.int .i64 x.2]
def ziz(v:Value):Option (DataW Value×List MemPlace):=
 match v with
 |.agg _=>some (.held v,[])
 |_=>none
theorem z5o{v y:Value}{ps:List MemPlace}(h:ziz v=some (.held y,ps)):v=y:=by
 cases v<;>simp[ziz] at h
 exact h.1
theorem zg3(w:World):(zeroValue 243).run prog w=.ok (chv (0,0)) w:=by kernel_rfl
structure Mem(w:World)(m N:Nat)(K:Nat->Nat->Nat->Nat->Nat×Nat):Prop where
 own:∃D:DataW Value,w.ownsMap prog 241 ziz m N D/\Maps.IsMap D/\∀kl,Maps.has D kl=true->∃a b c d:Nat,a<=9223372036854775807/\b<=9223372036854775807/\c<=9223372036854775807/\d<=9223372036854775807/\kl=pk a b c d/\∀z,D.atKey kl z=.held (chv (K a b c d))
section
variable {w w':World} {m N:Nat} {K:Nat->Nat->Nat->Nat->Nat×Nat}
theorem Mem.lt(h:Mem w m N K):m<w.heap.size:=by
 obtain⟨D,h1,_⟩:=h.own;exact h1.lt
theorem Mem.of(h:Mem w m N K)(e:w'.heap[m]? =w.heap[m]?):Mem w' m N K:=by
 obtain⟨D,⟨es,clock,h1,r⟩,h2,h3⟩:=h.own;exact⟨D,⟨es,clock,e.trans h1,r⟩,h2,h3⟩
theorem Mem.made(w:World)(K:Nat->Nat->Nat->Nat->Nat×Nat):Mem (w.alloc (.map #[] 0)) w.heap.size 0 K:=
 ⟨.map [],World.ownsMap_made w prog 241 ziz,Maps.isMap_empty,λkl h=>by simp[Maps.has] at h⟩
theorem Mem.look(h:Mem w m N K){a b c d:Nat}(ha:a<=9223372036854775807)(hb:b<=9223372036854775807)(hc:c<=9223372036854775807)(hd:d<=9223372036854775807):
 (Instr.lookup 239 (.map (some m)) (zcB a b c d) true).run prog w=.ok (.tuple #[chv (K a b c d),.bool true]) w\/(Instr.lookup 239 (.map (some m)) (zcB a b c d) true).run prog w=.ok (.tuple #[chv (0,0),.bool false]) w:=by
 obtain⟨D,h1,h2,h3⟩:=h.own;obtain⟨v,ps,hrun,hv⟩:=h1.look_ok zaI underlying239 (zg3 w) (zd:=.held (chv (0,0))) (zp:=[]) rfl (z4w ha hb hc hd);cases q:Maps.has D (pk a b c d)
 · right
   rw[hrun,q];rw[Maps.atKey_of_not_has q] at hv;rw[z5o hv]
 · left
   rw[hrun,q];obtain⟨a',b',c',d',ka,kb,kc,kd',e,hz⟩:=h3 _ q;have e2:=zaI.inj (z4w ha hb hc hd) (by rw[e];exact z4w ka kb kc kd');obtain⟨rfl,rfl,rfl,rfl⟩:=zdu e2;rw[hz] at hv;rw[z5o hv]
theorem Mem.put(h:Mem w m N K){a b c d:Nat}(ha:a<=9223372036854775807)(hb:b<=9223372036854775807)(hc:c<=9223372036854775807)(hd:d<=9223372036854775807)(hn:N<maxLen):
 ∃w',(Instr.mapUpdate 239 (.map (some m)) (zcB a b c d) (chv (K a b c d))).run prog w=.ok () w'/\Mem w' m (N+1) K/\w.grownBy w' (some m):=by
 obtain⟨D,h1,h2,h3⟩:=h.own;obtain⟨w',hrun,g1,g2⟩:=h1.update zaI underlying239 hn (z4w ha hb hc hd) (R:=ziz) (val:=chv (K a b c d)) (d:=.held (chv (K a b c d))) (ps:=[]) rfl;refine⟨w',hrun,⟨_,g1,h2.put _ _,λkl e=> ?_⟩,g2⟩;by_cases q:kl=pk a b c d
 · subst q
   exact⟨a,b,c,d,ha,hb,hc,hd,rfl,λz=>Maps.atKey_put_same h2 (ziH _ _ _ _) _ _⟩
 · rw[Maps.has_put_other q] at e
   obtain⟨a',b',c',d',ka,kb,kc,kd',e2,hz⟩:=h3 _ e;exact⟨a',b',c',d',ka,kb,kc,kd',e2,λz=>by rw[Maps.atKey_put_other q];exact hz z⟩
