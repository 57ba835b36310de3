/- Texts of one place, one behind the other: SpG, SpT. -/
import Derived.Test.YtacelhaidcmbcaaGreatDoorTMSpK
import Derived.Maps.AppendAt
import Derived.Maps.RangeWalk
import Derived.Maps.OwnSet
import Derived.DeepKeys4
set_option maxHeartbeats 8000000
set_option maxRecDepth 1000000
set_option linter.unusedVariables false
set_option linter.unusedSimpArgs false
namespace Go.Proofs.YtacelhaidcmbcaaGreatDoor.V
open Go Go.RowKit M U
open Go.ChangeShapes Go.WideShapes Go.Deep
def Hb(w:World)(T:TypeId)(g:Nat)(cs:Array Value):Prop:=w.heap[g]? =some (.cells cs T (0,0))
section
variable {w w':World} {T:TypeId} {g:Nat} {cs:Array Value}
theorem Hb.new(w:World)(T:TypeId)(cs:Array Value):Hb (w.alloc (.cells cs T)) T w.heap.size cs:=heap_alloc_new _ _
theorem Hb.lt(h:Hb w T g cs):g<w.heap.size:=(qW.1 h).1
theorem Hb.of(h:Hb w T g cs)(e:w'.heap[g]? =w.heap[g]?):Hb w' T g cs:=e.trans h
theorem Hb.alloc(h:Hb w T g cs)(o:Obj):Hb (w.alloc o) T g cs:=(Below.heap_alloc w o g h.lt).trans h
theorem Hb.drew(h:Hb w T g cs):Hb w.drew T g cs:=h
theorem Hb.below(h:Hb w T g cs){B:Nat}(hb:Below B w w')(hB:g<B):Hb w' T g cs:=h.of (hb.block g hB)
theorem Hb.next(h:Hb w T g cs)(hb:Below w.heap.size w w'):Hb w' T g cs:=h.below hb h.lt
theorem Hb.kept{S:Nat→Prop}(h:Hb w T g cs)(hk:Kept S w w')(hS:¬S g):Hb w' T g cs:=h.of (hk.block g h.lt hS)
theorem Hb.cell(h:Hb w T g cs)(i:Nat){v:Value}(hv:cs[i]? =some v):w.cell? ⟨g,i,none⟩=some v:=by
 unfold Hb at h;rw[cell_of_row w _ _ _ _ _ h];exact hv
theorem Hb.free(h:Hb w T g cs)(i:Nat):w.frozen? ⟨g,i,none⟩=false:=by
 unfold Hb at h;simp[World.frozen?,h]
theorem Hb.set(h:Hb w T g cs)(i:Nat)(v:Value):Hb (w.setCell ⟨g,i,none⟩ v) T g (cs.setIfInBounds i v):=by
 unfold Hb at h ⊢;simp[World.setCell,Array.getElem?_modify,h]
theorem Hb.row(h:Hb w T g cs):w.heap[g]? =some (.cells cs T (0,0)):=h
theorem Hb.cell1{a:Value}(h:Hb w T g #[a]):w.cell? ⟨g,0,none⟩=some a:=h.cell 0 rfl
theorem Hb.cells2{a b:Value}(h:Hb w T g #[a,b]):w.cell? ⟨g,0,none⟩=some a∧w.cell? ⟨g,1,none⟩=some b:=⟨h.cell 0 rfl,h.cell 1 rfl⟩
theorem Hb.cells4{a b c d:Value}(h:Hb w T g #[a,b,c,d]):w.cell? ⟨g,0,none⟩=some a∧w.cell? ⟨g,1,none⟩=some b∧w.cell? ⟨g,2,none⟩=some c∧w.cell? ⟨g,3,none⟩=some d:=⟨h.cell 0 rfl,h.cell 1 rfl,h.cell 2 rfl,h.cell 3 rfl⟩
theorem Hb.put2{a a':Value}(h:Hb w T g #[a,a'])(b b':Value):Hb ((w.setCell ⟨g,0,none⟩ b).setCell ⟨g,1,none⟩ b') T g #[b,b']:=(h.set 0 b).set 1 b'
theorem Hb.put4{a1 a2 a3 a4:Value}(h:Hb w T g #[a1,a2,a3,a4])(b1 b2 b3 b4:Value):Hb ((((w.setCell ⟨g,0,none⟩ b1).setCell ⟨g,1,none⟩ b2).setCell ⟨g,2,none⟩ b3).setCell ⟨g,3,none⟩ b4) T g #[b1,b2,b3,b4]:=(((h.set 0 b1).set 1 b2).set 2 b3).set 3 b4
end
structure Pie where
 f:Nat
 t:Nat
 z:Nat
 k:Nat
deriving DecidableEq
instance:Inhabited Pie:=⟨⟨0,0,0,0⟩⟩
def z3Q:List Pie→List Value
 |[]=> []
 |q::l=> .int .i64 q.f::.int .i64 q.t::.int .i64 q.z::.int .i64 q.k::z3Q l
theorem z3p:∀l r,z3Q (l++r)=z3Q l++z3Q r
 |[],r=>rfl
 |q::l,r=>by simp only[List.cons_append,z3Q,z3p l r]
theorem zc3:∀ (l:List Pie) (i:Nat) (q:Pie),l[i]? =some q→(z3Q l)[i*4]? =some (.int .i64 q.f)∧(z3Q l)[i*4+1]? =some (.int .i64 q.t)∧(z3Q l)[i*4+2]? =some (.int .i64 q.z)∧(z3Q l)[i*4+3]? =some (.int .i64 q.k)
 |[],i,q,h=>by simp at h
 |x::l,0,q,h=>by simp at h;subst h;exact⟨rfl,rfl,rfl,rfl⟩
 |x::l,i+1,q,h=>by
  simp at h;have ih:=zc3 l i q h;rw[show(i+1)*4=i*4+1+1+1+1 by omega];exact ih
theorem z8l:∀ (l:List Pie),∀u∈z3Q l,u.oneCell'=true
 |[],u,h=>by simp[z3Q] at h
 |q::l,u,h=>by
  simp only[z3Q,List.mem_cons] at h;rcases h with rfl|rfl|rfl|rfl|h
  · rfl
  · rfl
  · rfl
  · rfl
  · exact z8l l u h
def z1e(B:Nat)(w:World)(v:Value)(l:List Pie):Prop:=w.ownsRow B 96 4 v l.length (z3Q l)
theorem z1e.nil(B:Nat)(w:World):z1e B w (.slice none 0 0) []:=World.ownsRow_nil w B _ 4
theorem z1e.alloc{B:Nat}{w:World}{v:Value}{L:List Pie}(h:z1e B w v L)(o:Obj):z1e B (w.alloc o) v L:=World.ownsRow.alloc h o
theorem z1e.at{B:Nat}{w w':World}{v:Value}{L:List Pie}(h:z1e B w v L)(e:∀g,v.ownBlock=some g→w'.heap[g]? =w.heap[g]?):z1e B w' v L:=z0c h e
theorem z1e.lt{B:Nat}{w:World}{v:Value}{L:List Pie}(h:z1e B w v L):∀g,v.ownBlock=some g→B≤g∧g<w.heap.size:=World.ownsRow.lt h
theorem z1e.below{B:Nat}{w w':World}{v:Value}{L:List Pie}(h:z1e B w v L)(hb:Below w.heap.size w w'):z1e B w' v L:=h.at fun g hg=>hb.block g (h.lt g hg).2
theorem z1e.low{B B':Nat}{w:World}{v:Value}{L:List Pie}(h:z1e B w v L)(hB:B'≤B):z1e B' w v L:=by
 obtain⟨h0,hh⟩:=h;refine⟨h0,?_⟩;rcases hh with⟨h1,h2⟩|⟨g,c,cs,h1,h2,r⟩
 · exact .inl ⟨h1,h2⟩
 · exact .inr ⟨g,c,cs,h1,qK hB h2,r⟩
theorem z1e.form{B:Nat}{w:World}{v:Value}{L:List Pie}(h:z1e B w v L)(hn:0<L.length):∃g c,v=.slice (some ⟨g,0,none⟩) L.length c∧L.length≤c:=by
 obtain⟨_,hh⟩:=h;rcases hh with⟨h1,h2⟩|⟨g,c,cs,h1,h2,h3,h4,h5,h6,h7⟩
 · omega
 · exact⟨g,c,h1,by omega⟩
theorem z1e.form'{B:Nat}{w:World}{v:Value}{L:List Pie}(h:z1e B w v L):∃A c,v=.slice A L.length c:=by
 obtain⟨_,hh⟩:=h;rcases hh with⟨h1,h2⟩|⟨g,c,cs,h1,h2,h3,h4,h5,h6,h7⟩
 · exact⟨none,0,by rw[h2,h1]⟩
 · exact⟨_,c,h1⟩
theorem z1e.cell{B:Nat}{w:World}{g n c:Nat}{L:List Pie}(h:z1e B w (.slice (some ⟨g,0,none⟩) n c) L){i:Nat}{q:Pie}(hn:L.length=n)(hi:L[i]? =some q):w.cell? ⟨g,i*4,none⟩=some (.int .i64 q.f)∧w.cell? ⟨g,i*4+1,none⟩=some (.int .i64 q.t)∧w.cell? ⟨g,i*4+2,none⟩=some (.int .i64 q.z)∧w.cell? ⟨g,i*4+3,none⟩=some (.int .i64 q.k):=by
 have hl:i<L.length:=(List.getElem?_eq_some_iff.1 hi).1;obtain⟨a1,a2,a3,a4⟩:=zc3 L i q hi;unfold z1e at h;rw[hn] at h;exact⟨(h.cellAt (i*4) (by omega)).trans a1,(h.cellAt (i*4+1) (by omega)).trans a2,(h.cellAt (i*4+2) (by omega)).trans a3,(h.cellAt (i*4+3) (by omega)).trans a4⟩
theorem zg9:(Tryz.prog.info? 96).map (fun i=>(i.zero,i.size,i.bytes))=some (some (.agg #[.int .i64 0,.int .i64 0,.int .i64 0,.int .i64 0]),4,32):=by kernel_rfl
theorem zbf{w:World}{b:Nat}{q:Pie}(hc:w.cell? ⟨b,0,none⟩=some (.int .i64 q.f)∧w.cell? ⟨b,1,none⟩=some (.int .i64 q.t)∧w.cell? ⟨b,2,none⟩=some (.int .i64 q.z)∧w.cell? ⟨b,3,none⟩=some (.int .i64 q.k)):∀j u,(z3Q [q])[j]? =some u→w.cell? ((⟨b,0,none⟩:Addr).add j)=some u:=fun j u hu=>by
 rw[cadd_at]
 match j,hu with
 |0,hu=>simp[z3Q] at hu;subst hu;simpa using hc.1
 |1,hu=>simp[z3Q] at hu;subst hu;simpa using hc.2.1
 |2,hu=>simp[z3Q] at hu;subst hu;simpa using hc.2.2.1
 |3,hu=>simp[z3Q] at hu;subst hu;simpa using hc.2.2.2
 |(k+4),hu=>simp[z3Q] at hu
theorem z1M{ops:Array Oper}{rest:List Oper}{o:Oper}{a:Act}{w:World}{Q:Exit→Act→World→Prop}(hgd:o.guard=none)(s x:Operand)
 (ho:o.op=.call {callee:=.builtin .append,args:= #[s,x],argTypes:= #[103,103]}) (B:Nat) (v:Value) (L:List Pie) (hs:a.eval s=v) (h:z1e B w v L) (b c:Nat) (q:Pie)
 (hx:a.eval x=.slice (some ⟨b,0,none⟩) 1 c) (hc:w.cell? ⟨b,0,none⟩=some (.int .i64 q.f)∧w.cell? ⟨b,1,none⟩=some (.int .i64 q.t)∧w.cell? ⟨b,2,none⟩=some (.int .i64 q.z)∧w.cell? ⟨b,3,none⟩=some (.int .i64 q.k)) (hL:L.length≤1000000) (hB:B≤w.heap.size)
 (hK:∀v' w',z1e B w' v' (L++[q])→w.grownBy w' v.ownBlock→(∀g,v'.ownBlock=some g→v.ownBlock=some g∨w.heap.size≤g)→Below B w w'→wpList Tryz.prog ops Q rest (a.put o.dst v') w'):wpList Tryz.prog ops Q (o::rest) a w:=
 wpList_plain hgd fun K hK'=>by
  obtain⟨i,h1,h2,h3,h4⟩:=info_of zg9
  obtain⟨v',w',r1,r2,r3,_,r5⟩:=run_append_own_at (P:= Tryz.prog) w B 103 o.type 96 i _ 4 32 Tryz.underlying103 h1 h2 h3 h4 rfl (by decide) v L.length (z3Q L) h ⟨b,0,none⟩ 1 c (z3Q [q]) rfl
   (zbf hc) (z8l _) (by unfold maxLen;omega) (by omega) hB
  unfold Oper.wp execOp;simp only[ho,resolve,invoke,builtin,Sem.run_bind,Sem.run_pure,Result.andThen_ok,List.map_toArray,List.map_cons,List.map_nil,hs,hx,r1];refine hK' _ _ (hK v' w' ?_ r3 (fun g hg=>by rcases r5 with h|h;exact .inl (h▸hg);right;rw[h] at hg;injection hg with hg;omega) ((Below.refl _ w).grown r3 hB (fun k hk=>(World.ownsRow.lt h k hk).1)));unfold z1e;rw[qA,z3p];exact r2
end Go.Proofs.YtacelhaidcmbcaaGreatDoor.V
namespace Go.Proofs.YtacelhaidcmbcaaGreatDoor.V
open Go Go.RowKit M U
theorem zbk:laidOutB Tryz.prog=true:=by kernel_rfl
theorem zg7:(match Tryz.prog.underlying 96 with|some (.array _ _)|some (.struct _)=>true|_=>false)=true:=by kernel_rfl
theorem zaI:Maps.Keyed Tryz.prog 96 :=
 Maps.Keyed.of_law (deep_law_laid zbk (m:=4) (by omega) (of_decide_eq_true (by kernel_rfl)) (by kernel_rfl) zg7)
def zcu(a b c d:Nat):Value:=.agg #[.int .i64 a,.int .i64 b,.int .i64 c,.int .i64 d]
def pk(a b c d:Nat):Lit:=.string (keyBytes [.int .i64 a,.int .i64 b,.int .i64 c,.int .i64 d])
theorem ziZ: Tryz.prog.keyType 96 =true:=by kernel_rfl
theorem z7N: Tryz.prog.cellsOf 96 =4:=by kernel_rfl
theorem z9e: Tryz.prog.cellsOf 3 =1:=by kernel_rfl
theorem zcB:∃d,Tryz.prog.types.size=d+1:=⟨Tryz.prog.types.size - 1,by have:(0:Nat)< Tryz.prog.types.size:=of_decide_eq_true (by kernel_rfl);omega⟩
theorem z6O(a b c e:Int)(ha:(Lit.int .i64 a).wf=true)(hb:(Lit.int .i64 b).wf=true)(hc:(Lit.int .i64 c).wf=true)(he:(Lit.int .i64 e).wf=true):
 Tryz.prog.keyLits (Tryz.prog.types.size+1) 96 [.int .i64 a,.int .i64 b,.int .i64 c,.int .i64 e]=some [.int .i64 a,.int .i64 b,.int .i64 c,.int .i64 e]:=by
 obtain⟨d,hd⟩:=zcB
 have e2:∀n:Int,(Lit.int .i64 n).wf=true→ Tryz.prog.keyLits (d+1) 3 [.int .i64 n]=some [.int .i64 n]:=fun n hn=>by
  simp[Program.keyLits,Tryz.underlying3,hn]
 rw[hd,Program.keyLits.eq_def];simp only[Tryz.underlying96];simp[z7N,z9e,e2 a ha,e2 b hb,e2 c hc,e2 e he]
theorem z4O{a b c d:Nat}(ha:a≤9223372036854775807)(hb:b≤9223372036854775807)(hc:c≤9223372036854775807)(hd:d≤9223372036854775807):keyOf Tryz.prog 96 (zcu a b c d)=some (pk a b c d):=by
 have hw:∀n:Nat,n≤9223372036854775807→(Lit.int .i64 (n:Int)).wf=true:=fun n hn=>by simp[Lit.wf,IntKind.min,IntKind.max,IntKind.signed,IntKind.bits];omega
 have hf:(zcu a b c d).formed Tryz.prog 96 =true:=by simp[zcu,Value.formed,Tryz.underlying96,z7N]
 have hk:=z6O a b c d (hw a ha) (hw b hb) (hw c hc) (hw d hd);unfold keyOf;simp only[Tryz.underlying96];rw[if_pos (by rw[ziZ,hf];rfl)];show(Tryz.prog.keyLits (Tryz.prog.types.size+1) 96 [.int .i64 a,.int .i64 b,.int .i64 c,.int .i64 d]).map _=_
 rw[hk];rfl
theorem zdo{a b c d a' b' c' d':Nat}(h:zcu a b c d=zcu a' b' c' d'):a=a'∧b=b'∧c=c'∧d=d':=by
 unfold zcu at h;injection h with h
 simp at h;omega
theorem zhN(a b c d:Nat):WideAt.IsKeyLit (pk a b c d):=trivial
def chv(x:Nat×Nat):Value:=.agg #[.int .u8 x.1,.int .i64 x.2]
def zhH(v:Value):Option (DataW Value×List MemPlace):=
 match v with
 |.agg _=>some (.held v,[])
 |_=>none
theorem z5N{v y:Value}{ps:List MemPlace}(h:zhH v=some (.held y,ps)):v=y:=by
 cases v<;>simp[zhH] at h
 exact h.1
theorem zfl(w:World):(zeroValue 98).run Tryz.prog w=.ok (chv (0,0)) w:=by kernel_rfl
structure Mem(w:World)(m N:Nat)(K:Nat→Nat→Nat→Nat→Nat×Nat):Prop where
 own:∃D:DataW Value,w.ownsMap Tryz.prog 96 zhH m N D∧Maps.IsMap D∧∀kl,Maps.has D kl=true→∃a b c d:Nat,a≤9223372036854775807∧b≤9223372036854775807∧c≤9223372036854775807∧d≤9223372036854775807∧kl=pk a b c d∧∀z,D.atKey kl z=.held (chv (K a b c d))
section
variable {w w':World} {m N:Nat} {K:Nat→Nat→Nat→Nat→Nat×Nat}
theorem Mem.lt(h:Mem w m N K):m<w.heap.size:=by
 obtain⟨D,h1,_⟩:=h.own;exact h1.lt
theorem Mem.of(h:Mem w m N K)(e:w'.heap[m]? =w.heap[m]?):Mem w' m N K:=by
 obtain⟨D,⟨es,clock,h1,r⟩,h2,h3⟩:=h.own;exact⟨D,⟨es,clock,e.trans h1,r⟩,h2,h3⟩
theorem Mem.made(w:World)(K:Nat→Nat→Nat→Nat→Nat×Nat):Mem (w.alloc (.map #[] 0)) w.heap.size 0 K:=
 ⟨.map [],World.ownsMap_made w Tryz.prog 96 zhH,Maps.isMap_empty,fun kl h=>by simp[Maps.has] at h⟩
theorem Mem.look(h:Mem w m N K){a b c d:Nat}(ha:a≤9223372036854775807)(hb:b≤9223372036854775807)(hc:c≤9223372036854775807)(hd:d≤9223372036854775807):
 (Instr.lookup 94 (.map (some m)) (zcu a b c d) true).run Tryz.prog w=.ok (.tuple #[chv (K a b c d),.bool true]) w∨(Instr.lookup 94 (.map (some m)) (zcu a b c d) true).run Tryz.prog w=.ok (.tuple #[chv (0,0),.bool false]) w:=by
 obtain⟨D,h1,h2,h3⟩:=h.own;obtain⟨v,ps,hrun,hv⟩:=h1.look_ok zaI Tryz.underlying94 (zfl w) (zd:=.held (chv (0,0))) (zp:=[]) rfl (z4O ha hb hc hd);cases q:Maps.has D (pk a b c d)
 · right
   rw[hrun,q];rw[Maps.atKey_of_not_has q] at hv;rw[z5N hv]
 · left
   rw[hrun,q];obtain⟨a',b',c',d',ka,kb,kc,kd',e,hz⟩:=h3 _ q;have e2:=zaI.inj (z4O ha hb hc hd) (by rw[e];exact z4O ka kb kc kd');obtain⟨rfl,rfl,rfl,rfl⟩:=zdo e2;rw[hz] at hv;rw[z5N hv]
theorem Mem.put(h:Mem w m N K){a b c d:Nat}(ha:a≤9223372036854775807)(hb:b≤9223372036854775807)(hc:c≤9223372036854775807)(hd:d≤9223372036854775807)(hn:N<maxLen):
 ∃w',(Instr.mapUpdate 94 (.map (some m)) (zcu a b c d) (chv (K a b c d))).run Tryz.prog w=.ok () w'∧Mem w' m (N+1) K∧w.grownBy w' (some m):=by
 obtain⟨D,h1,h2,h3⟩:=h.own;obtain⟨w',hrun,g1,g2⟩:=h1.update zaI Tryz.underlying94 hn (z4O ha hb hc hd) (R:=zhH) (val:=chv (K a b c d)) (d:=.held (chv (K a b c d))) (ps:=[]) rfl;refine⟨w',hrun,⟨_,g1,h2.put _ _,fun kl e=> ?_⟩,g2⟩;by_cases q:kl=pk a b c d
 · subst q
   exact⟨a,b,c,d,ha,hb,hc,hd,rfl,fun z=>Maps.atKey_put_same h2 (zhN _ _ _ _) _ _⟩
 · rw[Maps.has_put_other q] at e
   obtain⟨a',b',c',d',ka,kb,kc,kd',e2,hz⟩:=h3 _ e;exact⟨a',b',c',d',ka,kb,kc,kd',e2,fun z=>by rw[Maps.atKey_put_other q];exact hz z⟩
end
end Go.Proofs.YtacelhaidcmbcaaGreatDoor.V
