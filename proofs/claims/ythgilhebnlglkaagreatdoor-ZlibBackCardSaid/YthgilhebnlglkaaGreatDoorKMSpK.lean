import Derived.Test.YthgilhebnlglkaaGreatDoorKMBwG
import Derived.Test.YthgilhebnlglkaaGreatDoorKMT9Tok
import Derived.DeepKeys4
set_option linter.all false
set_option maxHeartbeats 0
set_option maxRecDepth 1000000
open Go.Proofs.Tryz
namespace Go.Proofs.YthgilhebnlglkaaGreatDoor
namespace V
open Go Go.RowKit M U
noncomputable def kds(L:List Tk)(s:ByteArray):Nat->Nat×Nat
 |0=>(0,b3 L s 0)
 |j+1=>if b3 L s (j+1)<(kds L s j).2 then(j+1,b3 L s (j+1)) else kds L s j
theorem GR(L:List Tk)(s:ByteArray):kds L s 2=kd L s:=by
 unfold kd;simp only[kds];by_cases a:b3 L s 1<b3 L s 0
 · simp only[Aa,a,if_true]
 · simp only[Aa,a,if_false]
theorem uG{L:List Tk}{s:ByteArray}(hs:s.size<=70000)(a:L.length<=30000)(b:∀t∈L,may t=true):∀j,(kds L s j).2<=20000000/\(kds L s j).1<=j
 |0=>⟨wy hs a b,qR⟩
 |j+1=>by
  have c:=uG hs a b j;rw[kds]
  split
  · exact⟨by show b3 L s (j+1)<=_;omega,qR⟩
  · exact⟨c.1,by omega⟩
def mys(L:List Tk)(s:ByteArray):Nat:=if L.all may=true then(if Tx.szs L=s.size then 0 else 7) else 2
end V
namespace V
open Go Go.RowKit M U
open Go.ChangeShapes Go.WideShapes Go.Deep
structure Pv where
 f:Nat
 t:Nat
 z:Nat
 k:Nat
deriving DecidableEq
instance:Inhabited Pv:=⟨⟨0,0,0,0⟩⟩
def clp:List Pv->List Value
 |[]=> []
 |q::l=> .int .i64 q.f::.int .i64 q.t::.int .i64 q.z::.int .u8 q.k::clp l
theorem iq:∀l r,clp (l++r)=clp l++clp r
 |[],r=>rfl
 |q::l,r=>by simp only[Ac,clp,iq l r]
theorem EK:∀ (l:List Pv) (i:Nat) (q:Pv),l[i]? =some q->(clp l)[i*4]? =some (.int .i64 q.f)/\(clp l)[i*4+1]? =some (.int .i64 q.t)/\(clp l)[i*4+2]? =some (.int .i64 q.z)/\(clp l)[i*4+3]? =some (.int .u8 q.k)
 |[],i,q,h=>by simp at h
 |x::l,0,q,h=>by simp at h;subst h;exact⟨rfl,rfl,rfl,rfl⟩
 |x::l,i+1,q,h=>by
  simp at h;have a:=EK l i q h;rw[show(i+1)*4=i*4+1+1+1+1 by omega];exact a
theorem vI:∀ (l:List Pv),∀u∈clp l,u.oneCell'=true
 |[],u,h=>by simp[clp] at h
 |q::l,u,h=>by
  simp only[clp,Ab] at h;rcases h with rfl|rfl|rfl|rfl|h
  · rfl
  · rfl
  · rfl
  · rfl
  · exact vI l u h
def Owp(B:Nat)(w:World)(v:Value)(l:List Pv):Prop:=w.ownsRow B 102 4 v l.length (clp l)
theorem Owp.nil(B:Nat)(w:World):Owp B w (.slice none 0 0) []:=World.ownsRow_nil w B _ 4
theorem Owp.alloc{B:Nat}{w:World}{v:Value}{L:List Pv}(h:Owp B w v L)(o:Obj):Owp B (w.alloc o) v L:=World.ownsRow.alloc h o
theorem Owp.at{B:Nat}{w w':World}{v:Value}{L:List Pv}(h:Owp B w v L)(e:∀g,v.ownBlock=some g->w'.heap[g]? =w.heap[g]?):Owp B w' v L:=aM h e
theorem Owp.lt{B:Nat}{w:World}{v:Value}{L:List Pv}(h:Owp B w v L):∀g,v.ownBlock=some g->B<=g/\g<w.heap.size:=World.ownsRow.lt h
theorem Owp.form{B:Nat}{w:World}{v:Value}{L:List Pv}(h:Owp B w v L)(e:0<L.length):∃g c,v=.slice (some ⟨g,0,none⟩) L.length c/\L.length<=c:=by
 obtain⟨_,b⟩:=h;rcases b with⟨a,d⟩|⟨g,c,cs,a,d,f,k,l,j,i⟩
 · omega
 · exact⟨g,c,a,by omega⟩
theorem Owp.form'{B:Nat}{w:World}{v:Value}{L:List Pv}(h:Owp B w v L):∃A c,v=.slice A L.length c:=by
 obtain⟨_,d⟩:=h;rcases d with⟨a,b⟩|⟨g,c,cs,a,b,e,j,k,i,f⟩
 · exact⟨none,0,by rw[b,a]⟩
 · exact⟨_,c,a⟩
theorem Owp.cell{B:Nat}{w:World}{g n c:Nat}{L:List Pv}(h:Owp B w (.slice (some ⟨g,0,none⟩) n c) L){i:Nat}{q:Pv}(b:L.length=n)(hi:L[i]? =some q):w.cell? ⟨g,i*4,none⟩=some (.int .i64 q.f)/\w.cell? ⟨g,i*4+1,none⟩=some (.int .i64 q.t)/\w.cell? ⟨g,i*4+2,none⟩=some (.int .i64 q.z)/\w.cell? ⟨g,i*4+3,none⟩=some (.int .u8 q.k):=by
 have l:i<L.length:=(An.1 hi).1;obtain⟨e,a,j,d⟩:=EK L i q hi;unfold Owp at h;rw[b] at h;exact⟨(h.cellAt (i*4) (by omega)).trans e,(h.cellAt (i*4+1) (by omega)).trans a,(h.cellAt (i*4+2) (by omega)).trans j,(h.cellAt (i*4+3) (by omega)).trans d⟩
theorem xU:(prog.info? 102).map (λi=>(i.zero,i.size,i.bytes))=some (some (.agg #[.int .i64 0,.int .i64 0,.int .i64 0,.int .u8 0]),4,32):=by kernel_rfl
theorem yF{w:World}{b:Nat}{q:Pv}(c:w.cell? ⟨b,0,none⟩=some (.int .i64 q.f)/\w.cell? ⟨b,1,none⟩=some (.int .i64 q.t)/\w.cell? ⟨b,2,none⟩=some (.int .i64 q.z)/\w.cell? ⟨b,3,none⟩=some (.int .u8 q.k)):∀j u,(clp [q])[j]? =some u->w.cell? ((⟨b,0,none⟩:Addr).add j)=some u:=λj u a=>by
 rw[cadd_at]
 match j,a with
 |0,a=>simp[clp] at a;subst a;simpa using c.1
 |1,a=>simp[clp] at a;subst a;simpa using c.2.1
 |2,a=>simp[clp] at a;subst a;simpa using c.2.2.1
 |3,a=>simp[clp] at a;subst a;simpa using c.2.2.2
 |(k+4),a=>simp[clp] at a
theorem IsTks.sub{w:World}{A:Option Addr}{n c:Nat}{L:List Tk}(h:IsTks w A n L)(p:n<=c){f t:Nat}(hf:f<=t)(m:t<=n):
 IsTks w (if c=f then A else Option.map (λx=>x.add (f*3)) A) (t - f) (seg L f t):=by
 refine⟨by rw[seg_length (by have:=h.leng;omega)],by have:=h.most;omega,λx a=>h.good x (seg_mem a),?_⟩;by_cases j:t - f=0
 · exact .inl j
 · right
   rcases h.cells with q|⟨b,o,rfl,hb,hcs⟩
   · omega
   · rw[A0 (by omega)]
     refine⟨b,o+f*3,by simp[cadd_at],hb,λi x a=> ?_⟩;have g:L[f+i]? =some x:=by
      unfold seg at a;rw[AD] at a
      split at a
      · rw[Bm] at a;exact a
      · cases a
     have k:=hcs (f+i) x g;have e:o+(f+i)*3=o+f*3+i*3:=(by omega);exact⟨by rw[<-e];exact k.l,by rw[<-e];exact k.n,by rw[<-e];exact k.d⟩
end V
namespace V
open Go Go.RowKit M U
noncomputable def pvo(L:List Tk)(s:ByteArray)(q:Nat×Nat):Pv:=⟨q.1,q.2,szt L q.2 - szt L q.1,(kp L s q.1 q.2).1⟩
noncomputable def pvs(L:List Tk)(s:ByteArray)(l:List (Nat×Nat)):List Pv:=l.map (pvo L s)
theorem qm(L:List Tk)(s:ByteArray)(l r:List (Nat×Nat)):pvs L s (l++r)=pvs L s l++pvs L s r:=Aw
end V
namespace V
open Go Go.RowKit M U
open Go.ChangeShapes (lits)
theorem yg{L:List Tk}{s:ByteArray}:mys L s=0↔(∀t∈L,may t=true)/\Tx.szs L=s.size:=by
 unfold mys;by_cases h:L.all may=true
 · rw[A7 h]
   rw[CP] at h;by_cases a:Tx.szs L=s.size
   · rw[A7 a];exact⟨λ_=>⟨h,a⟩,λ_=>rfl⟩
   · rw[A0 a];exact⟨λg=>absurd g (by decide),λg=>absurd g.2 a⟩
 · rw[A0 h]
   rw[CP] at h;exact⟨λg=>absurd g (by decide),λg=>absurd g.1 h⟩
theorem Kh:b3 [] ⟨#[]⟩ 0=40/\b3 [] ⟨#[]⟩ 1=10/\10<=b3 [] ⟨#[]⟩ 2:=by
 refine⟨?_,?_,?_⟩
 · unfold b3
   rw[bkm_blk (by decide)];unfold blk;rw[A7 rfl,stb_length];rfl
 · unfold b3
   rw[bkm_blk (by decide)];unfold blk;rw[A0 (by decide),A7 rfl];rfl
 · unfold b3
   rw[bkm_blk (by decide)];unfold blk;rw[A0 (by decide),A0 (by decide),qA,qA];have:=yV [];omega
theorem JM:kd [] ⟨#[]⟩=(1,10):=by
 obtain⟨c,a,b⟩:=Kh;unfold kd;rw[A7 (by omega),A0 (by omega),a]
end V
namespace V
open Go Go.RowKit M U
open Go.ChangeShapes Go.WideShapes Go.Deep
def Hb(w:World)(T:TypeId)(g:Nat)(cs:Array Value):Prop:=w.heap[g]? =some (.cells cs T (0,0))
section
variable {w w':World} {T:TypeId} {g:Nat} {cs:Array Value}
theorem Hb.new(w:World)(T:TypeId)(cs:Array Value):Hb (w.alloc (.cells cs T)) T w.heap.size cs:=heap_alloc_new _ _
theorem Hb.lt(h:Hb w T g cs):g<w.heap.size:=(qW.1 h).1
theorem Hb.of(h:Hb w T g cs)(e:w'.heap[g]? =w.heap[g]?):Hb w' T g cs:=e.trans h
theorem Hb.alloc(h:Hb w T g cs)(o:Obj):Hb (w.alloc o) T g cs:=(Below.heap_alloc w o g h.lt).trans h
theorem Hb.drew(h:Hb w T g cs):Hb w.drew T g cs:=h
theorem Hb.below(h:Hb w T g cs){B:Nat}(b:Below B w w')(a:g<B):Hb w' T g cs:=h.of (b.block g a)
theorem Hb.next(h:Hb w T g cs)(a:Below w.heap.size w w'):Hb w' T g cs:=h.below a h.lt
theorem Hb.kept{S:Nat->Prop}(h:Hb w T g cs)(b:Kept S w w')(a:¬S g):Hb w' T g cs:=h.of (b.block g h.lt a)
theorem Hb.cell(h:Hb w T g cs)(i:Nat){v:Value}(a:cs[i]? =some v):w.cell? ⟨g,i,none⟩=some v:=by
 unfold Hb at h;rw[cell_of_row w _ _ _ _ _ h];exact a
theorem Hb.free(h:Hb w T g cs)(i:Nat):w.frozen? ⟨g,i,none⟩=false:=by
 unfold Hb at h;simp[World.frozen?,h]
theorem Hb.set(h:Hb w T g cs)(i:Nat)(v:Value):Hb (w.setCell ⟨g,i,none⟩ v) T g (cs.setIfInBounds i v):=by
 unfold Hb at h ⊢;simp[World.setCell,BT,h]
theorem Hb.row(h:Hb w T g cs):w.heap[g]? =some (.cells cs T (0,0)):=h
theorem Hb.cell1{a:Value}(h:Hb w T g #[a]):w.cell? ⟨g,0,none⟩=some a:=h.cell 0 rfl
theorem Hb.cells2{a b:Value}(h:Hb w T g #[a,b]):w.cell? ⟨g,0,none⟩=some a/\w.cell? ⟨g,1,none⟩=some b:=⟨h.cell 0 rfl,h.cell 1 rfl⟩
theorem Hb.cells4{a b c d:Value}(h:Hb w T g #[a,b,c,d]):w.cell? ⟨g,0,none⟩=some a/\w.cell? ⟨g,1,none⟩=some b/\w.cell? ⟨g,2,none⟩=some c/\w.cell? ⟨g,3,none⟩=some d:=⟨h.cell 0 rfl,h.cell 1 rfl,h.cell 2 rfl,h.cell 3 rfl⟩
theorem Hb.put2{a a':Value}(h:Hb w T g #[a,a'])(b b':Value):Hb ((w.setCell ⟨g,0,none⟩ b).setCell ⟨g,1,none⟩ b') T g #[b,b']:=(h.set 0 b).set 1 b'
end
structure Pie where
 f:Nat
 t:Nat
 z:Nat
 k:Nat
deriving DecidableEq
instance:Inhabited Pie:=⟨⟨0,0,0,0⟩⟩
def gG:List Pie->List Value
 |[]=> []
 |q::l=> .int .i64 q.f::.int .i64 q.t::.int .i64 q.z::.int .i64 q.k::gG l
theorem fO:∀l r,gG (l++r)=gG l++gG r
 |[],r=>rfl
 |q::l,r=>by simp only[Ac,gG,fO l r]
theorem vK:∀ (l:List Pie) (i:Nat) (q:Pie),l[i]? =some q->(gG l)[i*4]? =some (.int .i64 q.f)/\(gG l)[i*4+1]? =some (.int .i64 q.t)/\(gG l)[i*4+2]? =some (.int .i64 q.z)/\(gG l)[i*4+3]? =some (.int .i64 q.k)
 |[],i,q,h=>by simp at h
 |x::l,0,q,h=>by simp at h;subst h;exact⟨rfl,rfl,rfl,rfl⟩
 |x::l,i+1,q,h=>by
  simp at h;have a:=vK l i q h;rw[show(i+1)*4=i*4+1+1+1+1 by omega];exact a
theorem po:∀ (l:List Pie),∀u∈gG l,u.oneCell'=true
 |[],u,h=>by simp[gG] at h
 |q::l,u,h=>by
  simp only[gG,Ab] at h;rcases h with rfl|rfl|rfl|rfl|h
  · rfl
  · rfl
  · rfl
  · rfl
  · exact po l u h
def cM(B:Nat)(w:World)(v:Value)(l:List Pie):Prop:=w.ownsRow B 241 4 v l.length (gG l)
theorem cM.nil(B:Nat)(w:World):cM B w (.slice none 0 0) []:=World.ownsRow_nil w B _ 4
theorem cM.alloc{B:Nat}{w:World}{v:Value}{L:List Pie}(h:cM B w v L)(o:Obj):cM B (w.alloc o) v L:=World.ownsRow.alloc h o
theorem cM.at{B:Nat}{w w':World}{v:Value}{L:List Pie}(h:cM B w v L)(e:∀g,v.ownBlock=some g->w'.heap[g]? =w.heap[g]?):cM B w' v L:=aM h e
theorem cM.lt{B:Nat}{w:World}{v:Value}{L:List Pie}(h:cM B w v L):∀g,v.ownBlock=some g->B<=g/\g<w.heap.size:=World.ownsRow.lt h
theorem cM.below{B:Nat}{w w':World}{v:Value}{L:List Pie}(h:cM B w v L)(b:Below w.heap.size w w'):cM B w' v L:=h.at λg a=>b.block g (h.lt g a).2
theorem cM.low{B d:Nat}{w:World}{v:Value}{L:List Pie}(h:cM B w v L)(e:d<=B):cM d w v L:=by
 obtain⟨i,f⟩:=h;refine⟨i,?_⟩;rcases f with⟨a,b⟩|⟨g,c,cs,a,b,r⟩
 · exact .inl ⟨a,b⟩
 · exact .inr ⟨g,c,cs,a,qK e b,r⟩
theorem cM.form{B:Nat}{w:World}{v:Value}{L:List Pie}(h:cM B w v L)(e:0<L.length):∃g c,v=.slice (some ⟨g,0,none⟩) L.length c/\L.length<=c:=by
 obtain⟨_,b⟩:=h;rcases b with⟨a,d⟩|⟨g,c,cs,a,d,f,k,l,j,i⟩
 · omega
 · exact⟨g,c,a,by omega⟩
theorem cM.form'{B:Nat}{w:World}{v:Value}{L:List Pie}(h:cM B w v L):∃A c,v=.slice A L.length c:=by
 obtain⟨_,d⟩:=h;rcases d with⟨a,b⟩|⟨g,c,cs,a,b,e,j,k,i,f⟩
 · exact⟨none,0,by rw[b,a]⟩
 · exact⟨_,c,a⟩
theorem cM.cell{B:Nat}{w:World}{g n c:Nat}{L:List Pie}(h:cM B w (.slice (some ⟨g,0,none⟩) n c) L){i:Nat}{q:Pie}(b:L.length=n)(hi:L[i]? =some q):w.cell? ⟨g,i*4,none⟩=some (.int .i64 q.f)/\w.cell? ⟨g,i*4+1,none⟩=some (.int .i64 q.t)/\w.cell? ⟨g,i*4+2,none⟩=some (.int .i64 q.z)/\w.cell? ⟨g,i*4+3,none⟩=some (.int .i64 q.k):=by
 have l:i<L.length:=(An.1 hi).1;obtain⟨e,a,j,d⟩:=vK L i q hi;unfold cM at h;rw[b] at h;exact⟨(h.cellAt (i*4) (by omega)).trans e,(h.cellAt (i*4+1) (by omega)).trans a,(h.cellAt (i*4+2) (by omega)).trans j,(h.cellAt (i*4+3) (by omega)).trans d⟩
theorem Gg:(prog.info? 241).map (λi=>(i.zero,i.size,i.bytes))=some (some (.agg #[.int .i64 0,.int .i64 0,.int .i64 0,.int .i64 0]),4,32):=by kernel_rfl
theorem uu{w:World}{b:Nat}{q:Pie}(c:w.cell? ⟨b,0,none⟩=some (.int .i64 q.f)/\w.cell? ⟨b,1,none⟩=some (.int .i64 q.t)/\w.cell? ⟨b,2,none⟩=some (.int .i64 q.z)/\w.cell? ⟨b,3,none⟩=some (.int .i64 q.k)):∀j u,(gG [q])[j]? =some u->w.cell? ((⟨b,0,none⟩:Addr).add j)=some u:=λj u a=>by
 rw[cadd_at]
 match j,a with
 |0,a=>simp[gG] at a;subst a;simpa using c.1
 |1,a=>simp[gG] at a;subst a;simpa using c.2.1
 |2,a=>simp[gG] at a;subst a;simpa using c.2.2.1
 |3,a=>simp[gG] at a;subst a;simpa using c.2.2.2
 |(k+4),a=>simp[gG] at a
theorem fa{e:Array Oper}{d:List Oper}{o:Oper}{a:Act}{w:World}{Q:Exit->Act->World->Prop}(n:o.guard=none)(s x:Operand)
 (E:o.op=.call {callee:=.builtin .append,args:= #[s,x],argTypes:= #[248,248]}) (B:Nat) (v:Value) (L:List Pie) (hs:a.eval s=v) (h:cM B w v L) (b c:Nat) (q:Pie)
 (u:a.eval x=.slice (some ⟨b,0,none⟩) 1 c) (y:w.cell? ⟨b,0,none⟩=some (.int .i64 q.f)/\w.cell? ⟨b,1,none⟩=some (.int .i64 q.t)/\w.cell? ⟨b,2,none⟩=some (.int .i64 q.z)/\w.cell? ⟨b,3,none⟩=some (.int .i64 q.k)) (N:L.length<=1000000) (p:B<=w.heap.size)
 (A:∀j w',cM B w' j (L++[q])->w.grownBy w' v.ownBlock->(∀g,j.ownBlock=some g->v.ownBlock=some g\/w.heap.size<=g)->Below B w w'->wpList prog e Q d (a.put o.dst j) w'):wpList prog e Q (o::d) a w:=
 wpList_plain n λK m=>by
  obtain⟨i,C,G,H,J⟩:=info_of Gg
  obtain⟨j,w',M,F,r,_,I⟩:=run_append_own_at (P:= prog) w B 248 o.type 241 i _ 4 32 underlying248 C G H J rfl (by decide) v L.length (gG L) h ⟨b,0,none⟩ 1 c (gG [q]) rfl
   (uu y) (po _) (by unfold maxLen;omega) (by omega) p
  unfold Oper.wp execOp;simp only[E,resolve,invoke,builtin,Sem.run_bind,Sem.run_pure,Result.andThen_ok,AV,Al,Av,hs,u,M];refine m _ _ (A j w' ?_ r (λg l=>by rcases I with h|h;exact .inl (h▸l);right;rw[h] at l;injection l with l;omega) ((Below.refl _ w).grown r p (λk D=>(World.ownsRow.lt h k D).1)));unfold cM;rw[qA,fO];exact F
end V
namespace V
open Go Go.RowKit M U
theorem uy:laidOutB prog=true:=by kernel_rfl
theorem Gf:(match prog.underlying 241 with|some (.array _ _)|some (.struct _)=>true|_=>false)=true:=by kernel_rfl
theorem tJ:Maps.Keyed prog 241 :=
 Maps.Keyed.of_law (deep_law_laid uy (m:=4) (by omega) (Cv (by kernel_rfl)) (by kernel_rfl) Gf)
def wK(a b c d:Nat):Value:=.agg #[.int .i64 a,.int .i64 b,.int .i64 c,.int .i64 d]
def pk(a b c d:Nat):Lit:=.string (keyBytes [.int .i64 a,.int .i64 b,.int .i64 c,.int .i64 d])
theorem La: prog.keyType 241 =true:=by kernel_rfl
theorem oh: prog.cellsOf 241 =4:=by kernel_rfl
theorem qM: prog.cellsOf 3 =1:=by kernel_rfl
theorem wU:∃d,prog.types.size=d+1:=⟨prog.types.size - 1,by have:(0:Nat)< prog.types.size:=Cv (by kernel_rfl);omega⟩
theorem mr(a b c e:Int)(h:(Lit.int .i64 a).wf=true)(i:(Lit.int .i64 b).wf=true)(l:(Lit.int .i64 c).wf=true)(k:(Lit.int .i64 e).wf=true):
 prog.keyLits (prog.types.size+1) 241 [.int .i64 a,.int .i64 b,.int .i64 c,.int .i64 e]=some [.int .i64 a,.int .i64 b,.int .i64 c,.int .i64 e]:=by
 obtain⟨d,j⟩:=wU;have f:∀n:Int,(Lit.int .i64 n).wf=true-> prog.keyLits (d+1) 3 [.int .i64 n]=some [.int .i64 n]:=λn m=>by
  simp[Program.keyLits,underlying3,m]
 rw[j,Program.keyLits.eq_def];simp only[underlying241];simp[oh,qM,f a h,f b i,f c l,f e k]
theorem iT{a b c d:Nat}(f:a<=9223372036854775807)(h:b<=9223372036854775807)(k:c<=9223372036854775807)(j:d<=9223372036854775807):keyOf prog 241 (wK a b c d)=some (pk a b c d):=by
 have e:∀n:Nat,n<=9223372036854775807->(Lit.int .i64 (n:Int)).wf=true:=λn l=>by simp[Lit.wf,IntKind.min,IntKind.max,IntKind.signed,IntKind.bits];omega
 have hf:(wK a b c d).formed prog 241 =true:=(by simp[wK,Value.formed,underlying241,oh]);have i:=mr a b c d (e a f) (e b h) (e c k) (e d j);unfold keyOf;simp only[underlying241];rw[A7 (by rw[La,hf];rfl)];show(prog.keyLits (prog.types.size+1) 241 [.int .i64 a,.int .i64 b,.int .i64 c,.int .i64 d]).map _=_
 rw[i];rfl
theorem xR{a b c d a' b' e d':Nat}(h:wK a b c d=wK a' b' e d'):a=a'/\b=b'/\c=e/\d=d':=by
 unfold wK at h;injection h with h
 simp at h;omega
theorem Jk(a b c d:Nat):WideAt.IsKeyLit (pk a b c d):=trivial
def chv(x:Nat×Nat):Value:=.agg #[.int .u8 x.1,.int .i64 x.2]
def J7(v:Value):Option (DataW Value×List MemPlace):=
 match v with
 |.agg _=>some (.held v,[])
 |_=>none
theorem kh{v y:Value}{ps:List MemPlace}(h:J7 v=some (.held y,ps)):v=y:=by
 cases v<;>simp[J7] at h
 exact h.1
theorem F9(w:World):(zeroValue 243).run prog w=.ok (chv (0,0)) w:=by kernel_rfl
structure Mem(w:World)(m N:Nat)(K:Nat->Nat->Nat->Nat->Nat×Nat):Prop where
 own:∃D:DataW Value,w.ownsMap prog 241 J7 m N D/\Maps.IsMap D/\∀kl,Maps.has D kl=true->∃a b c d:Nat,a<=9223372036854775807/\b<=9223372036854775807/\c<=9223372036854775807/\d<=9223372036854775807/\kl=pk a b c d/\∀z,D.atKey kl z=.held (chv (K a b c d))
section
variable {w w':World} {m N:Nat} {K:Nat->Nat->Nat->Nat->Nat×Nat}
theorem Mem.lt(h:Mem w m N K):m<w.heap.size:=by
 obtain⟨D,a,_⟩:=h.own;exact a.lt
theorem Mem.of(h:Mem w m N K)(e:w'.heap[m]? =w.heap[m]?):Mem w' m N K:=by
 obtain⟨D,⟨b,clock,a,r⟩,c,d⟩:=h.own;exact⟨D,⟨b,clock,e.trans a,r⟩,c,d⟩
theorem Mem.made(w:World)(K:Nat->Nat->Nat->Nat->Nat×Nat):Mem (w.alloc (.map #[] 0)) w.heap.size 0 K:=
 ⟨.map [],World.ownsMap_made w prog 241 J7,Maps.isMap_empty,λa h=>by simp[Maps.has] at h⟩
theorem Mem.look(h:Mem w m N K){a b c d:Nat}(k:a<=9223372036854775807)(l:b<=9223372036854775807)(o:c<=9223372036854775807)(n:d<=9223372036854775807):
 (Instr.lookup 239 (.map (some m)) (wK a b c d) true).run prog w=.ok (.tuple #[chv (K a b c d),.bool true]) w\/(Instr.lookup 239 (.map (some m)) (wK a b c d) true).run prog w=.ok (.tuple #[chv (0,0),.bool false]) w:=by
 obtain⟨D,r,B,s⟩:=h.own;obtain⟨v,ps,f,i⟩:=r.look_ok tJ underlying239 (F9 w) (zd:=.held (chv (0,0))) (zp:=[]) rfl (iT k l o n);cases q:Maps.has D (pk a b c d)
 · right
   rw[f,q];rw[Maps.atKey_of_not_has q] at i;rw[kh i]
 · left
   rw[f,q];obtain⟨a',b',A,z,x,kb,p,j,e,u⟩:=s _ q;have y:=tJ.inj (iT k l o n) (by rw[e];exact iT x kb p j);obtain⟨rfl,rfl,rfl,rfl⟩:=xR y;rw[u] at i;rw[kh i]
theorem Mem.put(h:Mem w m N K){a b c d:Nat}(j:a<=9223372036854775807)(n:b<=9223372036854775807)(k:c<=9223372036854775807)(o:d<=9223372036854775807)(E:N<maxLen):
 ∃w',(Instr.mapUpdate 239 (.map (some m)) (wK a b c d) (chv (K a b c d))).run prog w=.ok () w'/\Mem w' m (N+1) K/\w.grownBy w' (some m):=by
 obtain⟨D,s,l,u⟩:=h.own;obtain⟨w',f,p,A⟩:=s.update tJ underlying239 E (iT j n k o) (R:=J7) (val:=chv (K a b c d)) (d:=.held (chv (K a b c d))) (ps:=[]) rfl;refine⟨w',f,⟨_,p,l.put _ _,λF e=> ?_⟩,A⟩;by_cases q:F=pk a b c d
 · subst q
   exact⟨a,b,c,d,j,n,k,o,rfl,λz=>Maps.atKey_put_same l (Jk _ _ _ _) _ _⟩
 · rw[Maps.has_put_other q] at e
   obtain⟨a',b',C,v,x,kb,r,i,y,B⟩:=u _ e;exact⟨a',b',C,v,x,kb,r,i,y,λz=>by rw[Maps.atKey_put_other q];exact B z⟩
