/- Texts of one place, one behind the other: Drw, RfU, RfM, RfL. -/
import Derived.Test.YtdpabanajgegjaaGreatDoorEMLwA
import Derived.Deep.RegionHeld3
import Derived.ChangeAlike
import Derived.Test.YtdpabanajgegjaaGreatDoorEMPkE
import Derived.Test.YtdpabanajgegjaaGreatDoorEMPkA
import Derived.BigQuiet
import Derived.Deep.QuietTactic
import Derived.BigRegion
set_option linter.unusedVariables false
namespace Go.Proofs.YtdpabanajgegjaaGreatDoor
open Go.RowKit M
variable {ops:Array Oper} {Q:Exit→Act→World→Prop} {md:Region.Mode} {i fuel:Nat} {oi:Oper} {v:Value} {d:Option Tmp} {listed:Array Bool} {a:Act} {w:World} {S:World→Prop}
theorem take_op(hi:ops[i]? =some oi)(hd:oi.dst=d)(hs:Region.noSelect ops=true)(hf:Region.free md ops listed i=true)(hr:(Region.ready md ops listed).contains i=true)
 (hQ:∀c a w,Q (.panic c) (a.put oi.dst v) w→Q (.panic c) a w) (hw:Region.wanted oi (yielded ops a.tmps)=true) (hy:∀w,S w→(execOp a.eval oi).run Tryz.prog w=.ok (.value v) w)
 (hS:S w) (h:wpAnyH Tryz.prog md ops Q S fuel (listed.setIfInBounds i true) (a.put d v) w):wpAnyH Tryz.prog md ops Q S (fuel+1) listed a w:=
 wpAnyH_take hi hs hf hr hQ (.inl ⟨hw,hy⟩) hS (by rw[hd];exact h)
theorem take_call(hr:Region.ready md ops listed=[i])(hi:ops[i]? =some oi)
 (h:∀K:Act→World→Prop,Shut (∀a w,S w→(S w→wpAnyH Tryz.prog md ops Q S fuel (listed.setIfInBounds i true) a w)→K a w)→if Region.wanted oi (yielded ops a.tmps)=true then Oper.wp Tryz.prog oi a w K Q else K (a.put oi.dst undef) w):
 wpAnyH Tryz.prog md ops Q S (fuel+1) listed a w:=
 wpAnyH_ready hr (by simp) (AllReadyH.cons hi h AllReadyH.nil)
theorem take_region{id:Nat}(S:World→Prop)(hS:S w.drew)(h:S w.drew→wpAnyH Tryz.prog .any ops Q S ops.size (Array.replicate ops.size false) a w.drew):(Code.region id ops true).wp Tryz.prog Q a w:=
 wp_region_held_drew (by kernel_rfl) hS h
end Go.Proofs.YtdpabanajgegjaaGreatDoor
namespace Go.Proofs.YtdpabanajgegjaaGreatDoor
open Go.Lib (hid)
open Go.RowKit M
def c2(k:Nat):List Tp→List Value
 |[]=> []
 |t::l=> .int .i64 t.1.wt::.slice t.2 k k::c2 k l
theorem c2_length(k:Nat):∀l,(c2 k l).length=l.length*2
 |[]=>rfl
 |t::l=>by simp only[c2,List.length_cons];rw[c2_length k l];omega
theorem c2_append(k:Nat):∀l r,c2 k (l++r)=c2 k l++c2 k r
 |[],_=>rfl
 |t::l,r=>by simp only[List.cons_append,c2];rw[c2_append k l r]
theorem c2_at(k:Nat):∀ (l:List Tp) (i:Nat) (t:Tp),l[i]? =some t→(c2 k l)[i*2]? =some (.int .i64 t.1.wt)∧(c2 k l)[i*2+1]? =some (.slice t.2 k k)
 |[],i,t,h=>by simp at h
 |a::l,0,t,h=>by simp at h;subst h;simp[c2]
 |a::l,i+1,t,h=>by
  rw[List.getElem?_cons_succ] at h;obtain⟨h1,h2⟩:=c2_at k l i t h;simp only[c2];refine⟨?_,?_⟩
  · rw[show(i+1)*2=i*2+1+1 by omega];simpa using h1
  · rw[show(i+1)*2+1=i*2+1+1+1 by omega];simpa using h2
theorem c2_one(k:Nat):∀ (l:List Tp),∀u∈c2 k l,u.oneCell'=true
 |[],u,h=>by simp[c2] at h
 |t::l,u,h=>by
  simp only[c2,List.mem_cons] at h;rcases h with rfl|rfl|h
  · rfl
  · rfl
  · exact c2_one k l u h
def Trs2(w:World)(b o k:Nat)(l:List Tp):Prop:=∀i t,l[i]? =some t→w.cell? ⟨b,o+i*2,none⟩=some (.int .i64 t.1.wt)∧w.cell? ⟨b,o+i*2+1,none⟩=some (.slice t.2 k k)
theorem Trs2.cl{w:World}{b o k:Nat}:∀ {l:List Tp},Trs2 w b o k l→∀j u,(c2 k l)[j]? =some u→w.cell? ((⟨b,o,none⟩:Addr).add j)=some u:=by
 intro l h j u hu;rw[add_at];have hj:j<l.length*2:=by rw[←c2_length k];exact(List.getElem?_eq_some_iff.1 hu).1
 have hi:j/2<l.length:=by omega
 obtain⟨h1,h2⟩:=h (j/2) _ (List.getElem?_eq_getElem hi);obtain⟨g1,g2⟩:=c2_at k l (j/2) _ (List.getElem?_eq_getElem hi);have:j=j/2*2∨j=j/2*2+1:=by omega
 rcases this with e|e
 · rw[←e] at g1 h1;rw[g1] at hu;rw[h1,←hu]
 · rw[←e] at g2;rw[g2] at hu;rw[show o+j=o+j/2*2+1 by omega,h2,←hu]
theorem Trs2.below{w w':World}{b o k:Nat}{l:List Tp}(h:Trs2 w b o k l)(hl:b<w.heap.size)(hb:Below w.heap.size w w'):Trs2 w' b o k l:=fun i t hi=>by
 obtain⟨h1,h2⟩:=h i t hi;exact⟨(hb.cell hl).trans h1,(hb.cell hl).trans h2⟩
def Ow2(base:Nat)(w:World)(v:Value)(k:Nat)(l:List Tp):Prop:=w.ownsRow base 171 2 v l.length (c2 k l)
section
variable {base k:Nat} {w w':World} {v:Value} {l r:List Tp}
theorem Ow2.alloc(h:Ow2 base w v k l)(o:Obj):Ow2 base (w.alloc o) v k l:=World.ownsRow.alloc h o
theorem Ow2.drew(h:Ow2 base w v k l):Ow2 base w.drew v k l:=h
theorem Ow2.drewN(h:Ow2 base w v k l)(n:Nat):Ow2 base (w.drewN n) v k l:=h
theorem Ow2.at'(h:Ow2 base w v k l)(q:∀g,v.ownBlock=some g→w'.heap[g]? =w.heap[g]?):Ow2 base w' v k l:=ownsRow_at h q
theorem Ow2.nil(base k:Nat)(w:World):Ow2 base w (.slice none 0 0) k []:=World.ownsRow_nil w base _ 2
theorem Ow2.lt(h:Ow2 base w v k l):∀g,v.ownBlock=some g→base≤g∧g<w.heap.size:=World.ownsRow.lt h
theorem Ow2.below(h:Ow2 base w v k l)(hb:Below w.heap.size w w'):Ow2 base w' v k l:=h.at' fun g hg=>hb.block g (h.lt g hg).2
end
theorem run_ap2(w:World)(ty:TypeId)(base k:Nat)(v:Value)(l r:List Tp)(hown:Ow2 base w v k l)(b o c:Nat)(hG:Trs2 w b o k r)(hm:l.length+r.length≤2000)(hb:base≤w.heap.size):
 ∃v' w',(Builtin.append_ #[169,169] ty #[v,.slice (some ⟨b,o,none⟩) r.length c]).run Tryz.prog w=.ok v' w'∧Ow2 base w' v' k (l++r)∧w.grownBy w' v.ownBlock∧Below base w w'∧(v'.ownBlock=v.ownBlock∨v'.ownBlock=some w.heap.size):=by
 obtain⟨i,h1,h2,h3,h4⟩:=info_of thing2Info
 obtain⟨v',w',r1,r2,r3,_,r5⟩:=run_append_own_at (P:= Tryz.prog) w base 169 ty 171 i _ 2 32 Tryz.underlying169 h1 h2 h3 h4 rfl (by decide) v l.length (c2 k l) hown ⟨b,o,none⟩ r.length c (c2 k r) (c2_length k r)
  hG.cl (c2_one k r) (by unfold maxLen;omega) (by omega) hb
 refine⟨v',w',r1,?_,r3,(Below.refl base w).grown r3 hb (fun k hk=>(World.ownsRow.lt hown k hk).1),r5⟩;unfold Ow2;rw[List.length_append,c2_append];exact r2
theorem wp_ap2{o:Oper}{a:Act}{w:World}{K:Act→World→Prop}{Q:Exit→Act→World→Prop}{d:Option Tmp}(hd:o.dst=d)(s x:Operand)(ho:o.op=.call {callee:=.builtin .append,args:= #[s,x],argTypes:= #[169,169]})
 (base k:Nat) (v:Value) (l r:List Tp) (hs:a.eval s=v) (hown:Ow2 base w v k l) (b o' n c:Nat) (hx:a.eval x=.slice (some ⟨b,o',none⟩) n c) (hn:r.length=n) (hG:Trs2 w b o' k r) (hm:l.length+r.length≤2000) (hb:base≤w.heap.size)
 (h:∀v' w',Ow2 base w' v' k (l++r)→w.grownBy w' v.ownBlock→Below base w w'→(v'.ownBlock=v.ownBlock∨v'.ownBlock=some w.heap.size)→K (a.put d v') w'):o.wp Tryz.prog a w K Q:=by
 subst hn;obtain⟨v',w',r1,r2,r3,r4,r5⟩:=run_ap2 w o.type base k v l r hown b o' c hG hm hb;unfold Oper.wp execOp;simp only[ho,resolve,invoke,builtin,Sem.run_bind,Sem.run_pure,Result.andThen_ok,List.map_toArray,List.map_cons,List.map_nil,hs,hx,r1];subst hd;exact h v' w' r2 r3 r4 r5
theorem wpList_ap2{ops:Array Oper}{rest:List Oper}{o:Oper}{a:Act}{w:World}{Q:Exit→Act→World→Prop}(hgd:o.guard=none)(s x:Operand)(ho:o.op=.call {callee:=.builtin .append,args:= #[s,x],argTypes:= #[169,169]})
 (base k:Nat) (v:Value) (l r:List Tp) (hs:a.eval s=v) (hown:Ow2 base w v k l) (b o' n c:Nat) (hx:a.eval x=.slice (some ⟨b,o',none⟩) n c) (hn:r.length=n) (hG:Trs2 w b o' k r) (hm:l.length+r.length≤2000) (hb:base≤w.heap.size)
 (h:∀v' w',Ow2 base w' v' k (l++r)→w.grownBy w' v.ownBlock→Below base w w'→(v'.ownBlock=v.ownBlock∨v'.ownBlock=some w.heap.size)→wpList Tryz.prog ops Q rest (a.put o.dst v') w'):wpList Tryz.prog ops Q (o::rest) a w:=
 wpList_plain hgd fun _ hK=>wp_ap2 rfl s x ho base k v l r hs hown b o' n c hx hn hG hm hb fun v' w' h1 h2 h3 h4=>hK _ _ (h v' w' h1 h2 h3 h4)
theorem mr2_pk{L P:List Tp}{p:Tp}{i j:Nat}(hp:P[j]? =some p)(h:∀l,L[i]? =some l→p.1.wt<l.1.wt):mr2 (L.drop i) (P.drop j)=p::mr2 (L.drop i) (P.drop (j+1)):=by
 by_cases hi:i<L.length
 · exact mr2_less (List.getElem?_eq_getElem hi) hp (h _ (List.getElem?_eq_getElem hi))
 · obtain⟨hj,rfl⟩:=List.getElem?_eq_some_iff.1 hp
   rw[show L.drop i=[] from List.drop_eq_nil_of_le (by omega),mr2_nil,mr2_nil,List.drop_eq_getElem_cons hj]
def Says(w:World)(B k:Nat)(y:Nat→Nat)(t:Tp):Prop:=∃g,t.2=some ⟨g,0,none⟩∧(B≤g∧g<w.heap.size)∧Br w g k (fun j=>t.1.cn (y j)%256)
theorem Says.below{w w':World}{B k:Nat}{y:Nat→Nat}{t:Tp}(h:Says w B k y t)(hb:Below w.heap.size w w'):Says w' B k y t:=by
 obtain⟨g,h1,h2,h3⟩:=h;exact⟨g,h1,⟨h2.1,Nat.lt_of_lt_of_le h2.2 hb.size⟩,h3.at' (hb.block g h2.2)⟩
theorem Ow2.apart{base k g n:Nat}{w:World}{v:Value}{l:List Tp}{f:Nat→Nat}(h:Ow2 base w v k l)(hb:Br w g n f):v.ownBlock≠some g:=by
 intro e;rcases h.2 with⟨h1,_⟩|⟨g',cap,cur,h1,hg,hh,_⟩
 · rw[h1] at e;cases e
 · rw[h1] at e
   have:g'=g:=Option.some.inj e;subst this;obtain⟨c,hc,_⟩:=hb;rw[hc] at hh;simp at hh
theorem Says.grown{base B k:Nat}{w w':World}{v:Value}{l:List Tp}{y:Nat→Nat}{t:Tp}(h:Says w B k y t)(ho:Ow2 base w v k l)(hg:w.grownBy w' v.ownBlock)(hs:w.heap.size≤w'.heap.size):Says w' B k y t:=by
 obtain⟨g,h1,h2,h3⟩:=h;exact⟨g,h1,⟨h2.1,Nat.lt_of_lt_of_le h2.2 hs⟩,h3.at' (hg.block g h2.2 (fun e=>ho.apart h3 e.symm))⟩
def Th2(w:World)(A:Option Addr)(B k:Nat)(y:Nat→Nat)(X:List Tp):Prop:=
 (0<X.length→∃b o,A=some ⟨b,o,none⟩∧(B≤b∧b<w.heap.size)∧Trs2 w b o k X)∧∀x∈X,Says w B k y x
theorem Th2.below{w w':World}{A:Option Addr}{B k:Nat}{y:Nat→Nat}{X:List Tp}(h:Th2 w A B k y X)(hb:Below w.heap.size w w'):Th2 w' A B k y X:=by
 refine⟨fun hn=> ?_,fun x hx=>(h.2 x hx).below hb⟩;obtain⟨b,o,e,hl,ht⟩:=h.1 hn;exact⟨b,o,e,⟨hl.1,Nat.lt_of_lt_of_le hl.2 hb.size⟩,ht.below hl.2 hb⟩
theorem Ow2.parts{base k:Nat}{w:World}{v:Value}{l:List Tp}(h:Ow2 base w v k l):∃A cap,v=.slice A l.length cap∧(0<l.length→∃b o,A=some ⟨b,o,none⟩∧(base≤b∧b<w.heap.size)∧Trs2 w b o k l):=by
 rcases h.2 with⟨h1,h2⟩|⟨g,cap,cur,rfl,hg,hh,_⟩
 · exact⟨none,0,by rw[h1,h2],fun g=>by omega⟩
 · refine⟨some ⟨g,0,none⟩,cap,rfl,fun _=>⟨g,0,rfl,⟨hg,?_⟩,fun i t hi=> ?_⟩⟩
   · rcases Nat.lt_or_ge g w.heap.size with q|q
     · exact q
     · rw[Array.getElem?_eq_none q] at hh;cases hh
   · have hlt:=(List.getElem?_eq_some_iff.1 hi).1
     obtain⟨h1,h2⟩:=c2_at k l i t hi;rw[Nat.zero_add];have q:=fun j hj=>World.ownsRow.cellAt (w:=w) h j hj
     exact⟨(q _ (by omega)).trans h1,(q _ (by omega)).trans h2⟩
theorem one_trs2(w:World)(k:Nat)(t:Tp)(x:Int)(hx:(t.1.wt:Int)=x):Trs2 (w.alloc (.cells #[.int .i64 x,.slice t.2 k k] 171)) w.heap.size 0 k [t]:=by
 intro i u h
 match i,h with
 |0,h=>
  simp at h;subst h;rw[hx];simp
theorem pks_take(R:List Th)(j:Nat)(h:2*j+1<R.length):(pks R).take (j+1)=(pks R).take j++[.pk (R.getD (2*j) (.lf 0 0)) (R.getD (2*j+1) (.lf 0 0))]:=by
 rw[List.take_add_one,pks_at R j (by omega)];rfl
set_option maxHeartbeats 1000000 in
set_option maxRecDepth 1000000 in
theorem rnext_any(A1 A2:Option Addr)(a1 a2 B k n1 n2:Nat)(y:Nat→Nat)(L R:List Tp)(W:World)(hBW:B≤W.heap.size)(hk:k≤320)(hl:L.length=n1)(hr:R.length=n2)(hn:n1≤320)(hm:n2≤640)
 (wl:∀x∈L,x.1.wt≤1125899906842624) (wr:∀x∈R,x.1.wt≤1125899906842624) (H1:Th2 W A1 B k y L) (H2:Th2 W A2 B k y R):
 Calls Tryz.prog 105 #[.slice A1 n1 a1,.slice A2 n2 a2] W fun e w'=> ∃A' n' cap X,e=.returned (.slice A' n' cap)∧X.length=n'∧X.map (·.1)=mrg (L.map (·.1)) (pks (R.map (·.1)))∧Th2 w' A' B k y X∧Below W.heap.size W w':=by
 have HBW:=hid hBW;have NL:=hid hl;have NR:=hid hr;have K1:=hid H1;have K2:=hid H2;have WL:=hid wl;have WR:=hid wr;clear hl hr H1 H2 wl wr hBW;go_enter Tryz.func105,Tryz.ntmps105;go_wp2_with fail
 go_loopw [5,7] (fun v i wr=> ∃ (u j:Nat) (P:List Tp),i=.int .i64 u∧u≤641∧Hid (u=2*j∧P.length=j∧P.map (·.1)=(pks (R.map (·.1))).take j∧Ow2 W.heap.size wr v k P∧(∀x∈P,Says wr B k y x)∧Below W.heap.size W wr)) (fun _ i _=>700 - (intOf i).toNat)
 case atStart=>exact⟨0,0,[],rfl,by omega,hid ⟨rfl,rfl,rfl,Ow2.nil _ _ _,fun x hx=>(by cases hx),Below.refl _ _⟩⟩
 case round=>
  obtain⟨u,j,P,rfl,hu,HB⟩:=hrel;obtain⟨v,hv⟩:∃v,u+1=v:=⟨_,rfl⟩
  have ev:(u:Int)+1=(v:Int):=by omega
  have ev2:IntKind.i64.wrap ((u:Int)+1)=(v:Int):=by rw[IntWalk.i64_in _ (by omega)];omega
  have ev3:IntKind.i64.wrap (v:Int)=(v:Int):=IntWalk.i64_in _ (by omega);have HV:=hid hv;by_cases c1:v<n2
  · have l1:u<R.length:=by rw[NR.out];omega
    have l2:v<R.length:=by rw[NR.out];exact c1
    have hun:u<n2:=by omega
    obtain⟨b,o,rfl,hbs,ht⟩:=K2.out.1 (by omega);obtain⟨x1,x2⟩:=ht u _ (List.getElem?_eq_getElem l1);obtain⟨y1,y2⟩:=ht v _ (List.getElem?_eq_getElem l2);obtain⟨gx,ex,gxl,bx⟩:=K2.out.2 _ (List.getElem_mem l1);obtain⟨gy,ey,gyl,by_⟩:=K2.out.2 _ (List.getElem_mem l2);have wx:=WR.out _ (List.getElem_mem l1);have wy:=WR.out _ (List.getElem_mem l2)
    have HP:=hid (show(pks (R.map (·.1))).take (j+1)=(pks (R.map (·.1))).take j++[.pk R[u].1 R[v].1] by
     have e:=HB.out.1;rw[pks_take _ j (by rw[List.length_map];omega),getD_map,getD_map];have f1:2*j=u:=e.symm;have f2:u+1=v:=HV.out;rw[f1,f2,List.getD,List.getD,List.getElem?_eq_getElem l1,List.getElem?_eq_getElem l2];rfl)
    obtain⟨p,hp⟩:∃p,R[u]=p:=⟨_,rfl⟩
    obtain⟨q,hq⟩:∃q,R[v]=q:=⟨_,rfl⟩
    rw[hp] at x1 x2 ex bx wx HP;rw[hq] at y1 y2 ey by_ wy HP;obtain⟨p,px⟩:=p;obtain⟨q,qx⟩:=q;simp only at x1 x2 ex bx wx y1 y2 ey by_ wy HP;subst ex ey;have hbw:=HB.out.2.2.2.2.2;have x1':=(hbw.cell hbs.2).trans x1;have x2':=(hbw.cell hbs.2).trans x2;have y1':=(hbw.cell hbs.2).trans y1;have y2':=(hbw.cell hbs.2).trans y2;have BX:=hid (bx.at' (hbw.block gx gxl.2));have BY:=hid (by_.at' (hbw.block gy gyl.2));obtain⟨xw,hxw⟩:∃t,p.wt=t:=⟨_,rfl⟩
    obtain⟨yw,hyw⟩:∃t,q.wt=t:=⟨_,rfl⟩
    rw[hxw] at x1' wx;rw[hyw] at y1' wy;have HXW:=hid (And.intro hxw hyw);clear x1 x2 y1 y2 ht hp hq l1 l2 bx by_ hv hbw hxw hyw;go_wp2_with fail;refine take_region (fun w'=>w'.cell? ⟨b,o+u*2,none⟩=some (.int .i64 xw)∧w'.cell? ⟨b,o+u*2+1,none⟩=some (.slice (some ⟨gx,0,none⟩) k k)∧w'.cell? ⟨b,o+v*2,none⟩=some (.int .i64 yw)∧w'.cell? ⟨b,o+v*2+1,none⟩=some (.slice (some ⟨gy,0,none⟩) k k)) ⟨x1',x2',y1',y2'⟩ (fun h0=> ?_)
    first
    |(refine take_no (i:=0) (d:=some 17) rfl rfl (by kernel_rfl) (by kernel_rfl) (by kernel_rfl) (fun _ _ _ h=>h) (by rfl) h0 ?_;(try simp only[Act.put,List.setIfInBounds_toArray,List.set_cons_zero,List.set_cons_succ]))
    |(refine take_op (i:=0) (d:=some 17) (v:= ?_) rfl rfl (by kernel_rfl) (by kernel_rfl) (by kernel_rfl) (fun _ _ _ h=>h) (by rfl) (fun w hSw=> ?_) h0 ?_;rotate_left;(focus ((try dsimp only at hSw);go_simp;(try with_reducible rfl)));(try simp only[Act.put,List.setIfInBounds_toArray,List.set_cons_zero,List.set_cons_succ]))
    first
    |(refine take_no (i:=1) (d:=some 18) rfl rfl (by kernel_rfl) (by kernel_rfl) (by kernel_rfl) (fun _ _ _ h=>h) (by rfl) h0 ?_;(try simp only[Act.put,List.setIfInBounds_toArray,List.set_cons_zero,List.set_cons_succ]))
    |(refine take_op (i:=1) (d:=some 18) (v:= ?_) rfl rfl (by kernel_rfl) (by kernel_rfl) (by kernel_rfl) (fun _ _ _ h=>h) (by rfl) (fun w hSw=> ?_) h0 ?_;rotate_left;(focus ((try dsimp only at hSw);go_simp;(try with_reducible rfl)));(try simp only[Act.put,List.setIfInBounds_toArray,List.set_cons_zero,List.set_cons_succ]))
    first
    |(refine take_no (i:=2) (d:=some 19) rfl rfl (by kernel_rfl) (by kernel_rfl) (by kernel_rfl) (fun _ _ _ h=>h) (by rfl) h0 ?_;(try simp only[Act.put,List.setIfInBounds_toArray,List.set_cons_zero,List.set_cons_succ]))
    |(refine take_op (i:=2) (d:=some 19) (v:= ?_) rfl rfl (by kernel_rfl) (by kernel_rfl) (by kernel_rfl) (fun _ _ _ h=>h) (by rfl) (fun w hSw=> ?_) h0 ?_;rotate_left;(focus ((try dsimp only at hSw);go_simp;(try with_reducible rfl)));(try simp only[Act.put,List.setIfInBounds_toArray,List.set_cons_zero,List.set_cons_succ]))
    first
    |(refine take_no (i:=3) (d:=some 20) rfl rfl (by kernel_rfl) (by kernel_rfl) (by kernel_rfl) (fun _ _ _ h=>h) (by rfl) h0 ?_;(try simp only[Act.put,List.setIfInBounds_toArray,List.set_cons_zero,List.set_cons_succ]))
    |(refine take_op (i:=3) (d:=some 20) (v:= ?_) rfl rfl (by kernel_rfl) (by kernel_rfl) (by kernel_rfl) (fun _ _ _ h=>h) (by rfl) (fun w hSw=> ?_) h0 ?_;rotate_left;(focus ((try dsimp only at hSw);go_simp;(try with_reducible rfl)));(try simp only[Act.put,List.setIfInBounds_toArray,List.set_cons_zero,List.set_cons_succ]))
    first
    |(refine take_no (i:=4) (d:=some 21) rfl rfl (by kernel_rfl) (by kernel_rfl) (by kernel_rfl) (fun _ _ _ h=>h) (by rfl) h0 ?_;(try simp only[Act.put,List.setIfInBounds_toArray,List.set_cons_zero,List.set_cons_succ]))
    |(refine take_op (i:=4) (d:=some 21) (v:= ?_) rfl rfl (by kernel_rfl) (by kernel_rfl) (by kernel_rfl) (fun _ _ _ h=>h) (by rfl) (fun w hSw=> ?_) h0 ?_;rotate_left;(focus ((try dsimp only at hSw);go_simp;(try with_reducible rfl)));(try simp only[Act.put,List.setIfInBounds_toArray,List.set_cons_zero,List.set_cons_succ]))
    first
    |(refine take_no (i:=5) (d:=some 22) rfl rfl (by kernel_rfl) (by kernel_rfl) (by kernel_rfl) (fun _ _ _ h=>h) (by rfl) h0 ?_;(try simp only[Act.put,List.setIfInBounds_toArray,List.set_cons_zero,List.set_cons_succ]))
    |(refine take_op (i:=5) (d:=some 22) (v:= ?_) rfl rfl (by kernel_rfl) (by kernel_rfl) (by kernel_rfl) (fun _ _ _ h=>h) (by rfl) (fun w hSw=> ?_) h0 ?_;rotate_left;(focus ((try dsimp only at hSw);go_simp;(try with_reducible rfl)));(try simp only[Act.put,List.setIfInBounds_toArray,List.set_cons_zero,List.set_cons_succ]))
    first
    |(refine take_no (i:=6) (d:=some 23) rfl rfl (by kernel_rfl) (by kernel_rfl) (by kernel_rfl) (fun _ _ _ h=>h) (by rfl) h0 ?_;(try simp only[Act.put,List.setIfInBounds_toArray,List.set_cons_zero,List.set_cons_succ]))
    |(refine take_op (i:=6) (d:=some 23) (v:= ?_) rfl rfl (by kernel_rfl) (by kernel_rfl) (by kernel_rfl) (fun _ _ _ h=>h) (by rfl) (fun w hSw=> ?_) h0 ?_;rotate_left;(focus ((try dsimp only at hSw);go_simp;(try with_reducible rfl)));(try simp only[Act.put,List.setIfInBounds_toArray,List.set_cons_zero,List.set_cons_succ]))
    first
    |(refine take_no (i:=7) (d:=some 24) rfl rfl (by kernel_rfl) (by kernel_rfl) (by kernel_rfl) (fun _ _ _ h=>h) (by rfl) h0 ?_;(try simp only[Act.put,List.setIfInBounds_toArray,List.set_cons_zero,List.set_cons_succ]))
    |(refine take_op (i:=7) (d:=some 24) (v:= ?_) rfl rfl (by kernel_rfl) (by kernel_rfl) (by kernel_rfl) (fun _ _ _ h=>h) (by rfl) (fun w hSw=> ?_) h0 ?_;rotate_left;(focus ((try dsimp only at hSw);go_simp;(try with_reducible rfl)));(try simp only[Act.put,List.setIfInBounds_toArray,List.set_cons_zero,List.set_cons_succ]))
    first
    |(refine take_no (i:=8) (d:=some 25) rfl rfl (by kernel_rfl) (by kernel_rfl) (by kernel_rfl) (fun _ _ _ h=>h) (by rfl) h0 ?_;(try simp only[Act.put,List.setIfInBounds_toArray,List.set_cons_zero,List.set_cons_succ]))
    |(refine take_op (i:=8) (d:=some 25) (v:= ?_) rfl rfl (by kernel_rfl) (by kernel_rfl) (by kernel_rfl) (fun _ _ _ h=>h) (by rfl) (fun w hSw=> ?_) h0 ?_;rotate_left;(focus ((try dsimp only at hSw);go_simp;(try with_reducible rfl)));(try simp only[Act.put,List.setIfInBounds_toArray,List.set_cons_zero,List.set_cons_succ]))
    first
    |(refine take_no (i:=9) (d:=some 26) rfl rfl (by kernel_rfl) (by kernel_rfl) (by kernel_rfl) (fun _ _ _ h=>h) (by rfl) h0 ?_;(try simp only[Act.put,List.setIfInBounds_toArray,List.set_cons_zero,List.set_cons_succ]))
    |(refine take_op (i:=9) (d:=some 26) (v:= ?_) rfl rfl (by kernel_rfl) (by kernel_rfl) (by kernel_rfl) (fun _ _ _ h=>h) (by rfl) (fun w hSw=> ?_) h0 ?_;rotate_left;(focus ((try dsimp only at hSw);go_simp;(try with_reducible rfl)));(try simp only[Act.put,List.setIfInBounds_toArray,List.set_cons_zero,List.set_cons_succ]))
    refine take_call (i:=10) (by kernel_rfl) rfl (fun K hK=> ?_);go_simp;refine(rboth_any xw yw gx gy k _ _ _ hk wx wy BX.out.drew BY.out.drew).mono ?_;rintro e w3 ⟨g3,rfl,q1,q2,q3⟩;have cb:b<wr.drew.heap.size:=World.block_lt_of_cell? _ _ x1';refine hK.out _ _ ⟨(q3.cell cb).trans x1',(q3.cell cb).trans x2',(q3.cell cb).trans y1',(q3.cell cb).trans y2'⟩ (fun h1=> ?_);clear hK K h0
    (try simp only[Act.put,List.setIfInBounds_toArray,List.set_cons_zero,List.set_cons_succ])
    refine take_call (i:=11) (by kernel_rfl) rfl (fun K hK=> ?_);go_simp;have b3:=(Below.refl w3.heap.size w3).alloc (Nat.le_refl _) (.cells #[.int .i64 ((xw+yw:Nat):Int),.slice (some ⟨g3,0,none⟩) k k] 171);have cb3:b<w3.heap.size:=World.block_lt_of_cell? _ _ h1.1;refine hK.out _ _ ⟨(b3.cell cb3).trans h1.1,(b3.cell cb3).trans h1.2.1,(b3.cell cb3).trans h1.2.2.1,(b3.cell cb3).trans h1.2.2.2⟩ (fun h2=> ?_);clear hK K h1
    (try simp only[Act.put,List.setIfInBounds_toArray,List.set_cons_zero,List.set_cons_succ])
    refine take_call (i:=12) (by kernel_rfl) rfl (fun K hK=> ?_);rw[if_pos (by rfl)];have HO:=(HB.out.2.2.2.1.drew.below q3).alloc (.cells #[.int .i64 ((xw+yw:Nat):Int),.slice (some ⟨g3,0,none⟩) k k] 171);have HT:=one_trs2 w3 k (Th.pk p q,some ⟨g3,0,none⟩) ((xw+yw:Nat):Int) (by simp only[Th.wt];rw[HXW.out.1,HXW.out.2]);have hs3:W.heap.size≤(w3.alloc (.cells #[.int .i64 ((xw+yw:Nat):Int),.slice (some ⟨g3,0,none⟩) k k] 171)).heap.size:=by have e1:=HB.out.2.2.2.2.2.size;have e2:=q3.size;simp at e2 ⊢;omega
    have hpl:P.length≤1000:=by have:=HB.out.1;have:=HB.out.2.1;omega
    refine wp_ap2 (d:=some 29) rfl (.tmp 17) (.tmp 28) rfl W.heap.size k _ P [(Th.pk p q,some ⟨g3,0,none⟩)] rfl HO w3.heap.size 0 1 1 rfl rfl HT (by simp;omega) hs3 ?_
    intro v4 w4 o4 g4 b4 k4;refine hK.out _ _ ⟨(b4.cell (Nat.lt_of_lt_of_le hbs.2 (Nat.le_refl _))).trans h2.1,(b4.cell (Nat.lt_of_lt_of_le hbs.2 (Nat.le_refl _))).trans h2.2.1,(b4.cell (Nat.lt_of_lt_of_le hbs.2 (Nat.le_refl _))).trans h2.2.2.1,(b4.cell (Nat.lt_of_lt_of_le hbs.2 (Nat.le_refl _))).trans h2.2.2.2⟩ (fun h3=> ?_);clear hK K h2
    (try simp only[Act.put,List.setIfInBounds_toArray,List.set_cons_zero,List.set_cons_succ])
    first
    |(refine take_no (i:=13) (d:=some 5) rfl rfl (by kernel_rfl) (by kernel_rfl) (by kernel_rfl) (fun _ _ _ h=>h) (by rfl) h3 ?_;(try simp only[Act.put,List.setIfInBounds_toArray,List.set_cons_zero,List.set_cons_succ]))
    |(refine take_op (i:=13) (d:=some 5) (v:= ?_) rfl rfl (by kernel_rfl) (by kernel_rfl) (by kernel_rfl) (fun _ _ _ h=>h) (by rfl) (fun w hSw=> ?_) h3 ?_;rotate_left;(focus ((try dsimp only at hSw);go_simp;(try with_reducible rfl)));(try simp only[Act.put,List.setIfInBounds_toArray,List.set_cons_zero,List.set_cons_succ]))
    refine wpAnyH_done (by kernel_rfl) ?_ _;have O4:=hid o4;have bal:=(Below.refl w3.heap.size w3).alloc (Nat.le_refl _) (.cells #[.int .i64 ((xw+yw:Nat):Int),.slice (some ⟨g3,0,none⟩) k k] 171);have B0:Below W.heap.size W wr.drew:=HB.out.2.2.2.2.2.drew
    have S4:Hid (∀x∈P++[(Th.pk p q,some ⟨g3,0,none⟩)],Says w4 B k y x):=hid (fun x hx=>by
     rcases List.mem_append.1 hx with hx|hx
     · have s1:Says wr.drew B k y x:=HB.out.2.2.2.2.1 x hx
       exact((s1.below q3).below bal).grown HO g4 b4.size
     · obtain rfl:x=(Th.pk p q,some ⟨g3,0,none⟩):=List.mem_singleton.1 hx
       have s1:Says w3 B k y (Th.pk p q,some ⟨g3,0,none⟩):=⟨g3,rfl,⟨Nat.le_trans HBW.out (Nat.le_trans B0.size q1),q2.lt⟩,q2.congr (fun j _=>by
        show(Th.cn (y j) p%256+Th.cn (y j) q%256)%256=(Th.cn (y j) p+Th.cn (y j) q)%256
        omega)⟩
       exact(s1.below bal).grown HO g4 b4.size)
    have B4:=hid (((B0.trans (q3.mono B0.size)).trans (bal.mono (Nat.le_trans B0.size q3.size))).trans b4);clear o4 g4 b4 k4 h3 HO HT hs3 hpl q1 q2 q3 cb cb3 b3 bal B0;go_wp2_with fail;go_roundw
    case rel=>exact⟨u+2,j+1,P++[(Th.pk p q,some ⟨g3,0,none⟩)],by go_num,by omega,hid ⟨by have:=HB.out.1;omega,by rw[List.length_append,HB.out.2.1];rfl,by rw[List.map_append,HB.out.2.2.1,HP.out];rfl,O4.out,S4.out,B4.out⟩⟩
    case measure=>simp[intOf];omega
  · have HPK:=hid (show P.map (·.1)=pks (R.map (·.1)) by
     rw[HB.out.2.2.1,List.take_of_length_le (by rw[pks_length,List.length_map,NR.out];have:=HB.out.1;have:=HV.out;omega)])
    have NPL:=hid (show P.length≤320 by have:=congrArg List.length HPK.out;rw[List.length_map,pks_length,List.length_map,NR.out] at this;omega);obtain⟨A5,c5,hu5,hp5⟩:=HB.out.2.2.2.1.parts;subst hu5;have J2:=hid (show Th2 wr A5 B k y P from⟨fun h0=>by obtain⟨b,o,e1,e2,e3⟩:=hp5 h0;exact⟨b,o,e1,⟨Nat.le_trans HBW.out e2.1,e2.2⟩,e3⟩,HB.out.2.2.2.2.1⟩);have J1:=hid (K1.out.below (HB.out.2.2.2.2.2));have BW:=hid HB.out.2.2.2.2.2;obtain⟨pn,hpn⟩:∃n,P.length=n:=⟨_,rfl⟩
    rw[hpn] at NPL ⊢;have hp320:=NPL.out;have NP:=hid hpn;obtain⟨w1,hw1⟩:∃w,w=wr:=⟨_,rfl⟩
    rw[←hw1] at J1 J2 BW ⊢;clear hp5 hpn HB hv hw1;go_wp2_with fail;clear ev ev2 ev3 HV c1 hu
    go_loopw [6,8,9] (fun v i0 j0 wr=> ∃ (i j:Nat) (X:List Tp),i0=.int .i64 i∧j0=.int .i64 j∧i≤n1∧j≤pn∧Hid (X++mr2 (L.drop i) (P.drop j)=mr2 L P∧X.length=i+j∧Ow2 w1.heap.size wr v k X∧Below w1.heap.size w1 wr)) (fun _ i0 j0 _=>n1+pn - (intOf i0).toNat - (intOf j0).toNat)
    case atStart=>exact⟨0,0,[],rfl,rfl,Nat.zero_le _,Nat.zero_le _,hid ⟨rfl,rfl,Ow2.nil _ _ _,Below.refl _ _⟩⟩
    case round=>
     obtain⟨i,j,X,rfl,rfl,hi0,hj0,HB⟩:=hrel;by_cases hi:i<n1
     · by_cases hj:j<pn
       · have d0:decide (pn≤j)=false:=decide_eq_false (by omega)
         have l1:i<L.length:=by rw[NL.out];exact hi
         obtain⟨b,o,rfl,hbs,ht⟩:=J1.out.1 (by omega);obtain⟨x1,x2⟩:=ht i _ (List.getElem?_eq_getElem l1);have HG:=hid (List.getElem?_eq_getElem l1);have wx:=WL.out _ (List.getElem_mem l1);obtain⟨t,htt⟩:∃t,L[i]=t:=⟨_,rfl⟩
         rw[htt] at x1 x2 HG wx;obtain⟨xw,hxw⟩:∃z,t.1.wt=z:=⟨_,rfl⟩
         rw[hxw] at x1 wx;have HXW:=hid hxw;have x1':=(HB.out.2.2.2.cell hbs.2).trans x1;have x2':=(HB.out.2.2.2.cell hbs.2).trans x2;clear x1 x2 ht htt hxw l1;have l2:j<P.length:=by rw[NP.out];exact hj
         obtain⟨b2,o2,rfl,hbs2,ht2⟩:=J2.out.1 (by omega);obtain⟨y1,y2⟩:=ht2 j _ (List.getElem?_eq_getElem l2);have HG2:=hid (List.getElem?_eq_getElem l2);obtain⟨t2,htt2⟩:∃t,P[j]=t:=⟨_,rfl⟩
         rw[htt2] at y1 y2 HG2;obtain⟨yw,hyw⟩:∃z,t2.1.wt=z:=⟨_,rfl⟩
         rw[hyw] at y1;have HYW:=hid hyw;have y1':=(HB.out.2.2.2.cell hbs2.2).trans y1;have y2':=(HB.out.2.2.2.cell hbs2.2).trans y2;clear y1 y2 ht2 htt2 hyw l2;by_cases hc:xw≤yw
         · have d1:decide (xw≤yw)=true:=decide_eq_true hc
           have HO:=hid (show ∀q:Nat,Ow2 w1.heap.size ((wr.drewN q).alloc (.cells #[.int .i64 (xw:Nat),.slice t.2 k k] 171)) u6 k X from fun q=>((HB.out.2.2.1.drewN q).alloc _));have HT:=hid (fun q:Nat=>one_trs2 (wr.drewN q) k t ((xw:Nat):Int) (by rw[HXW.out]));have HS:=hid (show ∀q:Nat,w1.heap.size≤((wr.drewN q).alloc (.cells #[.int .i64 (xw:Nat),.slice t.2 k k] 171)).heap.size from fun q=>by have:=HB.out.2.2.2.size;simp[World.drewN];omega);have HM:=hid (show X.length+[t].length≤2000 by rw[HB.out.2.1];simp;omega);have HA:=hid (show Below w1.heap.size w1 (wr.alloc (.cells #[.int .i64 (xw:Nat),.slice t.2 k k] 171)) from HB.out.2.2.2.alloc HB.out.2.2.2.size (.cells #[.int .i64 (xw:Nat),.slice t.2 k k] 171));have HE:=hid (show(X++[t])++mr2 (L.drop (i+1)) (P.drop j)=mr2 L P by rw[List.append_assoc,List.singleton_append,←mr2_leaf HG.out (fun z hz=>by rw[HG2.out] at hz;obtain rfl:=Option.some.inj hz;rw[HXW.out,HYW.out];omega)];exact HB.out.1);go_wp2_with fail
           go_quiet (fail)
           go_wp2_with (at_builtin;refine wpList_ap2 rfl _ _ rfl w1.heap.size k _ X [t] rfl (HO.out _) _ 0 1 1 rfl rfl (HT.out _) HM.out (HS.out _) ?_;intro v2 w2 o3 g3 b3 k3;have O2:=hid o3;have B2:=hid b3;clear o3 g3 b3 k3);go_roundw
           case rel=>exact⟨(i+1),j,X++[t],by go_num,by go_num,by omega,by omega,hid ⟨HE.out,by rw[List.length_append,HB.out.2.1];simp;omega,O2.out,(below_drewN HA.out _).trans B2.out⟩⟩
           case measure=>simp[intOf];omega
         · have d1:decide (xw≤yw)=false:=decide_eq_false hc
           have HO:=hid (show ∀q:Nat,Ow2 w1.heap.size ((wr.drewN q).alloc (.cells #[.int .i64 (yw:Nat),.slice t2.2 k k] 171)) u6 k X from fun q=>((HB.out.2.2.1.drewN q).alloc _));have HT:=hid (fun q:Nat=>one_trs2 (wr.drewN q) k t2 ((yw:Nat):Int) (by rw[HYW.out]));have HS:=hid (show ∀q:Nat,w1.heap.size≤((wr.drewN q).alloc (.cells #[.int .i64 (yw:Nat),.slice t2.2 k k] 171)).heap.size from fun q=>by have:=HB.out.2.2.2.size;simp[World.drewN];omega);have HM:=hid (show X.length+[t2].length≤2000 by rw[HB.out.2.1];simp;omega);have HA:=hid (show Below w1.heap.size w1 (wr.alloc (.cells #[.int .i64 (yw:Nat),.slice t2.2 k k] 171)) from HB.out.2.2.2.alloc HB.out.2.2.2.size (.cells #[.int .i64 (yw:Nat),.slice t2.2 k k] 171));have HE:=hid (show(X++[t2])++mr2 (L.drop i) (P.drop (j+1))=mr2 L P by rw[List.append_assoc,List.singleton_append,←mr2_pk HG2.out (fun z hz=>by rw[HG.out] at hz;obtain rfl:=Option.some.inj hz;rw[HXW.out,HYW.out];omega)];exact HB.out.1);go_wp2_with fail
           go_quiet (fail)
           go_wp2_with (at_builtin;refine wpList_ap2 rfl _ _ rfl w1.heap.size k _ X [t2] rfl (HO.out _) _ 0 1 1 rfl rfl (HT.out _) HM.out (HS.out _) ?_;intro v2 w2 o3 g3 b3 k3;have O2:=hid o3;have B2:=hid b3;clear o3 g3 b3 k3);go_roundw
           case rel=>exact⟨i,(j+1),X++[t2],by go_num,by go_num,by omega,by omega,hid ⟨HE.out,by rw[List.length_append,HB.out.2.1];simp;omega,O2.out,(below_drewN HA.out _).trans B2.out⟩⟩
           case measure=>simp[intOf];omega
       · obtain rfl:j=pn:=by omega
         have d0:decide (j≤j)=true:=decide_eq_true (Nat.le_refl _);have l1:i<L.length:=by rw[NL.out];exact hi
         obtain⟨b,o,rfl,hbs,ht⟩:=J1.out.1 (by omega);obtain⟨x1,x2⟩:=ht i _ (List.getElem?_eq_getElem l1);have HG:=hid (List.getElem?_eq_getElem l1);have wx:=WL.out _ (List.getElem_mem l1);obtain⟨t,htt⟩:∃t,L[i]=t:=⟨_,rfl⟩
         rw[htt] at x1 x2 HG wx;obtain⟨xw,hxw⟩:∃z,t.1.wt=z:=⟨_,rfl⟩
         rw[hxw] at x1 wx;have HXW:=hid hxw;have x1':=(HB.out.2.2.2.cell hbs.2).trans x1;have x2':=(HB.out.2.2.2.cell hbs.2).trans x2;clear x1 x2 ht htt hxw l1;have HO:=hid (show ∀q:Nat,Ow2 w1.heap.size ((wr.drewN q).alloc (.cells #[.int .i64 (xw:Nat),.slice t.2 k k] 171)) u6 k X from fun q=>((HB.out.2.2.1.drewN q).alloc _));have HT:=hid (fun q:Nat=>one_trs2 (wr.drewN q) k t ((xw:Nat):Int) (by rw[HXW.out]));have HS:=hid (show ∀q:Nat,w1.heap.size≤((wr.drewN q).alloc (.cells #[.int .i64 (xw:Nat),.slice t.2 k k] 171)).heap.size from fun q=>by have:=HB.out.2.2.2.size;simp[World.drewN];omega);have HM:=hid (show X.length+[t].length≤2000 by rw[HB.out.2.1];simp;omega);have HA:=hid (show Below w1.heap.size w1 (wr.alloc (.cells #[.int .i64 (xw:Nat),.slice t.2 k k] 171)) from HB.out.2.2.2.alloc HB.out.2.2.2.size (.cells #[.int .i64 (xw:Nat),.slice t.2 k k] 171));have HE:=hid (show(X++[t])++mr2 (L.drop (i+1)) (P.drop j)=mr2 L P by rw[List.append_assoc,List.singleton_append,←mr2_leaf HG.out (fun z hz=>by have:=(List.getElem?_eq_some_iff.1 hz).1;rw[NP.out] at this;omega)];exact HB.out.1);go_wp2_with fail
         go_quiet (fail)
         go_wp2_with (at_builtin;refine wpList_ap2 rfl _ _ rfl w1.heap.size k _ X [t] rfl (HO.out _) _ 0 1 1 rfl rfl (HT.out _) HM.out (HS.out _) ?_;intro v2 w2 o3 g3 b3 k3;have O2:=hid o3;have B2:=hid b3;clear o3 g3 b3 k3);go_roundw
         case rel=>exact⟨(i+1),j,X++[t],by go_num,by go_num,by omega,by omega,hid ⟨HE.out,by rw[List.length_append,HB.out.2.1];simp;omega,O2.out,(below_drewN HA.out _).trans B2.out⟩⟩
         case measure=>simp[intOf];omega
     · obtain rfl:i=n1:=by omega
       by_cases hj:j<pn
       · have d0:decide (pn≤j)=false:=decide_eq_false (by omega)
         have l2:j<P.length:=by rw[NP.out];exact hj
         obtain⟨b2,o2,rfl,hbs2,ht2⟩:=J2.out.1 (by omega);obtain⟨y1,y2⟩:=ht2 j _ (List.getElem?_eq_getElem l2);have HG2:=hid (List.getElem?_eq_getElem l2);obtain⟨t2,htt2⟩:∃t,P[j]=t:=⟨_,rfl⟩
         rw[htt2] at y1 y2 HG2;obtain⟨yw,hyw⟩:∃z,t2.1.wt=z:=⟨_,rfl⟩
         rw[hyw] at y1;have HYW:=hid hyw;have y1':=(HB.out.2.2.2.cell hbs2.2).trans y1;have y2':=(HB.out.2.2.2.cell hbs2.2).trans y2;clear y1 y2 ht2 htt2 hyw l2;have HO:=hid (show ∀q:Nat,Ow2 w1.heap.size ((wr.drewN q).alloc (.cells #[.int .i64 (yw:Nat),.slice t2.2 k k] 171)) u6 k X from fun q=>((HB.out.2.2.1.drewN q).alloc _));have HT:=hid (fun q:Nat=>one_trs2 (wr.drewN q) k t2 ((yw:Nat):Int) (by rw[HYW.out]));have HS:=hid (show ∀q:Nat,w1.heap.size≤((wr.drewN q).alloc (.cells #[.int .i64 (yw:Nat),.slice t2.2 k k] 171)).heap.size from fun q=>by have:=HB.out.2.2.2.size;simp[World.drewN];omega);have HM:=hid (show X.length+[t2].length≤2000 by rw[HB.out.2.1];simp;omega);have HA:=hid (show Below w1.heap.size w1 (wr.alloc (.cells #[.int .i64 (yw:Nat),.slice t2.2 k k] 171)) from HB.out.2.2.2.alloc HB.out.2.2.2.size (.cells #[.int .i64 (yw:Nat),.slice t2.2 k k] 171));have HE:=hid (show(X++[t2])++mr2 (L.drop i) (P.drop (j+1))=mr2 L P by rw[List.append_assoc,List.singleton_append,←mr2_pk HG2.out (fun z hz=>by have:=(List.getElem?_eq_some_iff.1 hz).1;rw[NL.out] at this;omega)];exact HB.out.1);go_wp2_with fail
         go_quiet (fail)
         go_wp2_with (at_builtin;refine wpList_ap2 rfl _ _ rfl w1.heap.size k _ X [t2] rfl (HO.out _) _ 0 1 1 rfl rfl (HT.out _) HM.out (HS.out _) ?_;intro v2 w2 o3 g3 b3 k3;have O2:=hid o3;have B2:=hid b3;clear o3 g3 b3 k3);go_roundw
         case rel=>exact⟨i,(j+1),X++[t2],by go_num,by go_num,by omega,by omega,hid ⟨HE.out,by rw[List.length_append,HB.out.2.1];simp;omega,O2.out,(below_drewN HA.out _).trans B2.out⟩⟩
         case measure=>simp[intOf];omega
       · obtain rfl:j=pn:=by omega
         have HX:=hid (show X=mr2 L P by
          have:=HB.out.1;rw[List.drop_eq_nil_of_le (by rw[NL.out];omega),List.drop_eq_nil_of_le (by rw[NP.out];omega),mr2_nil,List.append_nil] at this;exact this)
         obtain⟨A6,c6,hu6,hp6⟩:=HB.out.2.2.1.parts;subst hu6
         have HF:Hid (Th2 wr A6 B k y X):=hid ⟨fun h0=>by obtain⟨b,o,e1,e2,e3⟩:=hp6 h0;exact⟨b,o,e1,⟨Nat.le_trans HBW.out (Nat.le_trans BW.out.size e2.1),e2.2⟩,e3⟩,fun x hx=>by
          rw[HX.out] at hx;rcases mr2_mem x L P hx with g|g
          · exact(J1.out.2 x g).below HB.out.2.2.2
          · exact(J2.out.2 x g).below HB.out.2.2.2⟩
         clear hp6;go_wp2_with fail;go_ret;exact⟨A6,X.length,c6,X,rfl,rfl,by rw[HX.out,mr2_fst,HPK.out],HF.out,BW.out.trans (HB.out.2.2.2.mono BW.out.size)⟩
end Go.Proofs.YtdpabanajgegjaaGreatDoor
namespace Go.Proofs.YtdpabanajgegjaaGreatDoor
open Go.RowKit M
theorem Is.sl{base:Nat}{w:World}{v:Value}{n:Nat}{F:Nat→Int}(h:Is base w v n F):∃A cap,v=.slice A n cap∧Nums w .i64 A n F∧(0<n→∃b o,A=some ⟨b,o,none⟩):=by
 rcases h.parts with⟨rfl,rfl⟩|⟨g,cap,rfl⟩
 · exact⟨none,0,rfl,fun h=>absurd h (by omega),fun h=>absurd h (by omega)⟩
 · exact⟨_,cap,rfl,h.nums,fun _=>⟨g,0,rfl⟩⟩
end Go.Proofs.YtdpabanajgegjaaGreatDoor
namespace Go.Proofs.YtdpabanajgegjaaGreatDoor
open Go.Lib (hid)
open Go.RowKit M
def tel(T:List Th)(y:Nat→Nat)(i k s:Nat):Nat:=(ct s (T.take i)+if ∃j,j<k∧y j=s then(T.getD i (.lf 0 0)).cn s else 0)%256
theorem tel_zero(T:List Th)(y:Nat→Nat)(i s:Nat):tel T y i 0 s=ct s (T.take i)%256:=by
 unfold tel;rw[if_neg (fun⟨j,h,_⟩=>by omega),Nat.add_zero]
theorem tel_step{T:List Th}{y:Nat→Nat}{m:Nat}(inj:∀i j,i<m→j<m→y i=y j→i=j)(i:Nat){k:Nat}(hk:k<m)(s:Nat):
 (if s=y k then(tel T y i k (y k)+(T.getD i (.lf 0 0)).cn (y k)%256)%256 else tel T y i k s)=tel T y i (k+1) s:=by
 unfold tel;by_cases h:s=y k
 · subst h
   rw[if_pos rfl,if_neg (fun⟨j,h1,h2⟩=>by have:=inj j k (by omega) hk h2;omega),if_pos ⟨k,Nat.lt_succ_self _,rfl⟩];omega
 · rw[if_neg h]
   by_cases g:∃j,j<k∧y j=s
   · obtain⟨j,g1,g2⟩:=g
     rw[if_pos ⟨j,g1,g2⟩,if_pos ⟨j,by omega,g2⟩]
   · rw[if_neg g,if_neg (fun⟨j,g1,g2⟩=>by
      by_cases e:j=k
      · subst e;exact h g2.symm
      · exact g ⟨j,by omega,g2⟩)]
theorem tel_end{T:List Th}{y:Nat→Nat}{m i:Nat}(hi:i<T.length)(h0:∀s,(∀j,j<m→y j≠s)→(T.getD i (.lf 0 0)).cn s=0)(s:Nat):tel T y i m s=ct s (T.take (i+1))%256:=by
 unfold tel;have e:(T.getD i (.lf 0 0)).cn s=ct s [T.getD i (.lf 0 0)]:=by simp[ct]
 have et:T.take (i+1)=T.take i++[T.getD i (.lf 0 0)]:=by
  rw[List.take_add_one,List.getD,List.getElem?_eq_getElem hi];rfl
 rw[et,ct_append,←e];by_cases g:∃j,j<m∧y j=s
 · rw[if_pos g]
 · rw[if_neg g,h0 s (fun j h1 h2=>g ⟨j,h1,h2⟩)]
theorem row_cn0{w y:Nat→Nat}{m s:Nat}(hs:∀j,j<m→y j≠s)(k i:Nat)(hi:i<(row (lvs w y m) k).length):((row (lvs w y m) k).getD i (.lf 0 0)).cn s=0:=by
 have h1:=ct_row0 (w:=w) hs k (i+1) hi;rw[List.take_add_one,List.getElem?_eq_getElem hi] at h1;rw[List.getD,List.getElem?_eq_getElem hi];rw[ct_append] at h1;simp[ct] at h1 ⊢;omega
set_option maxHeartbeats 2000000 in
set_option maxRecDepth 1000000 in
theorem rlens_ok(A:Option Addr)(n c' L m:Nat)(c:Nat→Nat)(e:Nat→Nat×Nat)(W:World)(hn:n≤320)(hc:∀i,c i≤1073741824)(H:Nums W .i64 A n (fun i=>(c i:Int)))(h1:1≤L)(h2:L≤15)(hl:IsLv c n m e)(hb:nds m≤L):
 Calls Tryz.prog 65 #[.slice A n c',.int .i64 L] W (GotLens W n m L e):=by
 have HA:=hid H;have HC:=hid hc;have HL:=hid hl;have HB:=hid hb;have hm:=hl.le;obtain⟨q,hq⟩:∃q,nds m=q:=⟨_,rfl⟩
 rw[hq] at hb;have HQ:=hid hq;have NC:=hid (fun w=>rneeds_any (m:Int) w (by omega) (by omega));have hmk:=fun w=>madeByte w n (by omega)
 clear H hc hl hq;go_enter Tryz.func65,Tryz.ntmps65;go_wp2_with fail
 go_loop [6] (fun i=> ∃k:Nat,k≤n∧i=.int .i64 k) (fun i=>n - (intOf i).toNat)
 case atStart=>exact⟨0,Nat.zero_le _,rfl⟩
 case round=>
  obtain⟨k,hk,rfl⟩:=hrel;by_cases hlt:k<n
  · clear hmk
    obtain⟨b,o,rfl,hb',hcl⟩:=HA.out (by omega);have hcell:W.cell? ⟨b,o+k,none⟩=some (.int .i64 (c k)):=hcl k hlt;have x30:=HC.out k;clear hcl;obtain⟨x,hx⟩:∃x,c k=x:=⟨_,rfl⟩
    rw[hx] at hcell x30;clear hx;go_wp2_with fail
    go_round
    case rel=>exact⟨k+1,by omega,by go_num⟩
    case measure=>simp[intOf];omega
  · obtain rfl:k=n:=by omega
    go_wp2_with fail;refine(rsym_any A k c' c _ hn HC.out HA.out).mono ?_;rintro x w1 ⟨v1,m1,e1,rfl,l1,s1,b1⟩;obtain⟨rfl,he⟩:=lv_one HL.out l1;obtain⟨A1,cap1,rfl,f1,a1⟩:=(s1.congr (G:=fun i=>(ly e i:Int)) (fun i hi=>by unfold ly;rw[he i hi])).sl;have F1:=hid f1;have B1:=hid b1;clear l1 s1 b1 he f1 a1;go_wp2_with fail;refine(NC.out _).mono ?_;rintro e0 w' ⟨rfl,rfl⟩;rw[show((m:Int)).toNat=m by omega,HQ.out];clear NC;by_cases c0:m=0
    · subst c0
      go_wp2_with fail;go_ret2;exact⟨_,rfl,B1.out.size,(Br.made' w1 k).congr (f':=pl 0 e L) (fun i _=>by unfold pl;rw[if_pos rfl]),B1.out.alloc B1.out.size _⟩
    by_cases c1:m=1
    · subst c1
      obtain⟨b,o,rfl,hb1,hcl⟩:=F1.out (by omega);have y0:w1.cell? ⟨b,o,none⟩=some (.int .i64 (ly e 0:Int)):=by have:=hcl 0 (by omega);rwa [Nat.add_zero] at this
      have hs:=((HL.out).is_ 0 (by omega)).1;have hsk:ly e 0<k:=hs;clear hcl hs;have HMD:=hid (Br.made1 w1 k (ly e 0) hsk);have HPL:Hid (∀s,(if s=ly e 0 then 1 else 0)=pl 1 e L s):=hid (fun s=>by simp[pl]);obtain⟨s0,hs0⟩:∃s,ly e 0=s:=⟨_,rfl⟩
      rw[hs0] at y0 hsk HMD HPL;clear hs0;have mg:(madeCells #[Value.int .u8 0] k)[s0]? =some (.int .u8 0):=by simp[madeCells,hsk,Nat.mod_one]
      have y0':=(((Below.refl w1.heap.size w1).alloc (Nat.le_refl _) (.cells (madeCells #[.int .u8 0] k) 5)).cell hb1).trans y0;go_wp2_with fail;go_ret2;exact⟨_,rfl,B1.out.size,HMD.out.congr (fun s _=>HPL.out s),B1.out.alloc B1.out.size _⟩
    have m2:2≤m:=by omega
    have R0:=hid (Br.made' w1 k);have BA:=hid ((Below.refl w1.heap.size w1).alloc (Nat.le_refl _) (.cells (madeCells #[.int .u8 0] k) 5));have S2:=hid (show(w1.alloc (.cells (madeCells #[.int .u8 0] k) 5)).heap.size=w1.heap.size+1 by simp);have dm1:((m:Int)==1)=false:=by rw[beq_eq_false_iff_ne];omega
    have dm2:decide ((m:Int)<2)=false:=decide_eq_false (by omega);have dm3:decide (m<2)=false:=decide_eq_false (by omega);have dq1:decide ((L:Int)<(q:Int))=false:=decide_eq_false (by omega);have dq2:decide (L<q)=false:=decide_eq_false (by omega);go_wp2_with fail;clear hmk dm1 dm2 dm3 dq1 dq2 hb c0 c1;obtain⟨w2,hw2⟩:∃w,w=w1.alloc (.cells (madeCells #[.int .u8 0] k) 5):=⟨_,rfl⟩
    rw[←hw2] at R0 BA S2 ⊢;clear hw2;have B2:=hid (B1.out.trans (BA.out.mono B1.out.size));have F2:=hid (F1.out.below BA.out);have A2:=hid (HA.out.below B2.out);have LVN:=hid (fun i j=>lv_inj HL.out i j)
    go_loopw [10,11] (fun v i wr=> ∃ (i0:Nat) (X:List Tp),i=.int .i64 i0∧i0≤m∧Hid (X.map (·.1)=lvs (lw e) (ly e) i0∧X.length=i0∧Ow2 w2.heap.size wr v m X∧(∀x∈X,Says wr w2.heap.size m (ly e) x)∧Below w2.heap.size w2 wr)) (fun _ i _=>m - (intOf i).toNat)
    case atStart=>exact⟨0,[],rfl,Nat.zero_le _,hid ⟨rfl,rfl,Ow2.nil _ _ _,fun x hx=>(by cases hx),Below.refl _ _⟩⟩
    case round=>
     obtain⟨i,X,rfl,hi,HX⟩:=hrel;by_cases hlt2:i<m
     · obtain⟨b,o,rfl,hb1,hcl⟩:=F2.out (by omega)
       have hlk:ly e i<k:=((HL.out).is_ i hlt2).1;obtain⟨b2,o2,rfl,hb2,hcl2⟩:=A2.out (by omega);have y0:wr.cell? ⟨b,o+i,none⟩=some (.int .i64 (ly e i:Int)):=(HX.out.2.2.2.2.cell hb1).trans (hcl i hlt2);have z0:wr.cell? ⟨b2,o2+ly e i,none⟩=some (.int .i64 (c (ly e i))):=(HX.out.2.2.2.2.cell hb2).trans (hcl2 _ hlk);have x30:=HC.out (ly e i);have hlw:c (ly e i)=lw e i:=((HL.out).is_ i hlt2).2.2.symm;rw[hlw] at z0 x30;obtain⟨s0,hs0⟩:∃s,ly e i=s:=⟨_,rfl⟩
       obtain⟨x0,hx0⟩:∃x,lw e i=x:=⟨_,rfl⟩
       rw[hs0] at y0 z0 hlk;rw[hx0] at z0 x30;have HS0:=hid (And.intro hs0 hx0);clear hcl hcl2 hs0 hx0 hlw;go_wp2_with fail;refine(rleaf_any x0 i m _ (by omega) hlt2).mono ?_;rintro e0 w3 ⟨g3,rfl,q1,q2,q3⟩;have bal:=(Below.refl w3.heap.size w3).alloc (Nat.le_refl _) (.cells #[.int .i64 (x0:Int),.slice (some ⟨g3,0,none⟩) m m] 171);have HO:=hid ((HX.out.2.2.1.below q3).alloc (.cells #[.int .i64 (x0:Int),.slice (some ⟨g3,0,none⟩) m m] 171));have HT:=hid (one_trs2 w3 m (Th.lf x0 s0,some ⟨g3,0,none⟩) (x0:Int) rfl);have hs3:=HX.out.2.2.2.2.size;have hs4:=q3.size;have HS:=hid (show w2.heap.size≤(w3.alloc (.cells #[.int .i64 (x0:Int),.slice (some ⟨g3,0,none⟩) m m] 171)).heap.size by simp;omega);have HM:=hid (show X.length+1≤2000 by rw[HX.out.2.1];omega)
       have SA:Hid (∀x∈X++[(Th.lf x0 s0,some ⟨g3,0,none⟩)],Says (w3.alloc (.cells #[.int .i64 (x0:Int),.slice (some ⟨g3,0,none⟩) m m] 171)) w2.heap.size m (ly e) x):=hid (fun x hx=>by
        rcases List.mem_append.1 hx with hx|hx
        · exact((HX.out.2.2.2.1 x hx).below q3).below bal
        · obtain rfl:x=(Th.lf x0 s0,some ⟨g3,0,none⟩):=List.mem_singleton.1 hx
          have s1:Says w3 w2.heap.size m (ly e) (Th.lf x0 s0,some ⟨g3,0,none⟩):=⟨g3,rfl,⟨by omega,q2.lt⟩,q2.congr (fun j hj=>by
           show(if j=i then 1 else 0)=(if s0=ly e j then 1 else 0)%256
           by_cases g:j=i
           · subst g;rw[if_pos rfl,if_pos HS0.out.1.symm]
           · rw[if_neg g,if_neg (fun h=>g (LVN.out j i hj hlt2 (by rw[←h,HS0.out.1])))])⟩
          exact s1.below bal)
       have BW3:=hid ((HX.out.2.2.2.2.trans (q3.mono hs3)).trans (bal.mono (Nat.le_trans hs3 hs4)));clear q1 q2 q3 bal hs3 hs4;go_wp2_with (at_builtin;refine wpList_ap2 rfl _ _ rfl w2.heap.size m _ X [(Th.lf x0 s0,some ⟨g3,0,none⟩)] rfl HO.out w3.heap.size 0 1 1 rfl rfl HT.out HM.out HS.out ?_;intro v4 w4 o4 g4 b4 k4;have O4:=hid o4;have G4:=hid (And.intro g4 b4);clear o4 g4 b4 k4);go_roundw
       case rel=>exact⟨i+1,X++[(Th.lf x0 s0,some ⟨g3,0,none⟩)],by go_num,by omega,hid ⟨by rw[List.map_append,HX.out.1,lvs_succ,HS0.out.1,HS0.out.2];rfl,by rw[List.length_append,HX.out.2.1];rfl,O4.out,fun x hx=>(SA.out x hx).grown HO.out G4.out.1 G4.out.2.size,BW3.out.trans G4.out.2⟩⟩
       case measure=>simp[intOf];omega
     · obtain rfl:i=m:=by omega
       obtain⟨A3,c3,hu3,hp3⟩:=HX.out.2.2.1.parts;subst hu3;have T3:=hid (show Th2 wr A3 w2.heap.size i (ly e) X from⟨hp3,HX.out.2.2.2.1⟩);have B3:=hid HX.out.2.2.2.2;have XM:=hid HX.out.1;have XL:=hid HX.out.2.1;rw[HX.out.2.1];clear hp3 HX
       have XW:=hid (show ∀x∈X,x.1.wt≤1073741824 from fun x hx=>by
        have h3:x.1∈lvs (lw e) (ly e) i:=by rw[←XM.out];exact List.mem_map_of_mem hx
        unfold lvs at h3;obtain⟨j,hj,hj2⟩:=List.mem_map.1 h3;rw[←hj2];show lw e j≤1073741824
        have:=((HL.out).is_ j (List.mem_range.1 hj)).2.2;unfold lw;rw[this];exact HC.out _)
       obtain⟨w3,hw3⟩:∃w,w=wr:=⟨_,rfl⟩
       rw[←hw3] at T3 B3 ⊢;clear hw3;go_wp2_with fail
       go_loopw [12,13] (fun v k0 wr=> ∃ (kk:Nat) (A':Option Addr) (n' cap:Nat) (Y:List Tp),k0=.int .i64 kk∧v=.slice A' n' cap∧2≤kk∧kk≤L+1∧n'≤640∧Hid (Y.length=n'∧Y.map (·.1)=row (lvs (lw e) (ly e) i) (kk - 1)∧Th2 wr A' w2.heap.size i (ly e) Y∧Below w3.heap.size w3 wr)) (fun _ k0 _=>17 - (intOf k0).toNat)
       case atStart=>exact⟨2,A3,i,c3,X,rfl,rfl,by omega,by omega,by omega,hid ⟨XL.out,by rw[XM.out,row_one],T3.out,Below.refl _ _⟩⟩
       case round=>
        obtain⟨kk,A4,n4,c4,Y,rfl,rfl,k2,k3,n640,HY⟩:=hrel;by_cases hk2:kk≤L
        · have YW:=hid (show ∀x∈Y,x.1.wt≤1125899906842624 from fun x hx=>by
           have h3:x.1∈row (lvs (lw e) (ly e) i) (kk - 2+1):=by
            rw[show kk - 2+1=kk - 1 by omega,←HY.out.2.1];exact List.mem_map_of_mem hx
           have h4:=row_wt (M:=1073741824) (fun t ht=>by
            rw[←XM.out] at ht;obtain⟨y,hy,rfl⟩:=List.mem_map.1 ht;exact XW.out y hy) (kk - 2) _ h3
           have h5:1073741824*2^(kk - 2)≤1073741824*2^14:=Nat.mul_le_mul_left _ (Nat.pow_le_pow_right (by omega) (by omega));omega)
          go_wp2_with fail;refine(rnext_any A3 A4 c3 c4 w2.heap.size i i n4 (ly e) X Y _ (Nat.le_trans B3.out.size HY.out.2.2.2.size) (by omega) XL.out HY.out.1 (by omega) n640 (fun x hx=>by have:=XW.out x hx;omega) YW.out (T3.out.below HY.out.2.2.2) HY.out.2.2.1).mono ?_;rintro e0 w5 ⟨A5,n5,c5,Z,rfl,z1,z2,z3,z4⟩;have HZ:=hid (And.intro z1 (And.intro z2 (And.intro z3 z4)))
          have n5b:n5≤640:=by
           have h3:Z.map (·.1)=row (lvs (lw e) (ly e) i) (kk - 1+1):=by rw[z2,XM.out,HY.out.2.1];rfl
           have h4:=congrArg List.length h3;have h5:=row_most (lvs (lw e) (ly e) i) (kk - 1+1);rw[lvs_length] at h5;rw[List.length_map] at h4;omega
          clear z1 z2 z3 z4;go_wp2_with fail;go_roundw
          case rel=>exact⟨kk+1,A5,n5,c5,Z,by go_num,rfl,by omega,by omega,n5b,hid ⟨HZ.out.1,by rw[HZ.out.2.1,XM.out,HY.out.2.1,show kk+1 - 1=kk - 1+1 by omega];rfl,HZ.out.2.2.1,HY.out.2.2.2.trans (HZ.out.2.2.2.mono HY.out.2.2.2.size)⟩⟩
          case measure=>simp[intOf];omega
        · obtain rfl:kk=L+1:=by omega
          have HY1:Hid (Y.map (·.1)=row (lvs (lw e) (ly e) i) L):=hid (by have:=HY.out.2.1;rwa [Nat.add_sub_cancel] at this)
          have HEN:Hid (2*i - 2≤n4):=hid (by
           have h3:=row_enough (lvs (lw e) (ly e) i) L (by rw[lvs_length];exact(nds_le h1).1 HB.out);rw[lvs_length,←HY1.out,List.length_map,HY.out.1] at h3;exact h3)
          have T4:=hid HY.out.2.2.1;have YL:=hid HY.out.1;have B4:=hid (B3.out.trans (HY.out.2.2.2.mono B3.out.size));clear HY k2 k3;obtain⟨w4,hw4⟩:∃w,w=wr:=⟨_,rfl⟩
          rw[←hw4] at T4 B4 ⊢;clear hw4;obtain⟨g0,hg0⟩:∃g,g=w1.heap.size:=⟨_,rfl⟩
          have G0:=hid hg0;have R4:=hid (R0.out.below B4.out (by rw[S2.out];omega))
          have LC:Hid (∃b o,A1=some ⟨b,o,none⟩∧b<g0∧∀j,j<i→w4.cell? ⟨b,o+j,none⟩=some (.int .i64 (ly e j:Int))):=hid (by
           obtain⟨b,o,q1,q2,q3⟩:=F1.out (by omega);exact⟨b,o,q1,by rw[hg0];exact q2,fun j hj=>(B4.out.cell (show b<w2.heap.size by rw[S2.out];omega)).trans ((BA.out.cell q2).trans (q3 j hj))⟩)
          rw[←hg0] at R4 ⊢;obtain⟨b1,o1,rfl,hb1,hc1⟩:=LC.out;obtain⟨b6,o6,rfl,hb6,ht6⟩:=T4.out.1 (by have:=HEN.out;have:=YL.out;omega);have HC1:=hid hc1;have HT6:=hid ht6;have g62:g0<b6:=by have:=S2.out;omega
          obtain⟨T,hT⟩:∃T,row (lvs (lw e) (ly e) i) L=T:=⟨_,rfl⟩
          rw[hT] at HY1;have HTT:=hid hT;have hen:=HEN.out;clear hc1 ht6 hT LC hg0;go_wp2_with fail
          go_loopw [14] (fun v wr=> ∃p:Nat,v=.int .i64 p∧p≤2*i - 2∧Hid (Br wr g0 k (tel T (ly e) p 0)∧Kept (One g0) w4 wr)) (fun v _=>2*i - (intOf v).toNat)
          case atStart=>exact⟨0,rfl,Nat.zero_le _,hid ⟨R4.out.congr (fun s _=>by rw[tel_zero];rfl),Kept.refl _ _⟩⟩
          case round=>
           obtain⟨p,rfl,hp,HP⟩:=hrel;by_cases hp2:p<2*i - 2
           · have hpn:p<n4:=by omega
             have hpi:(p:Int)<2*(i:Int) - 2:=by omega
             have lY:p<Y.length:=by rw[YL.out];exact hpn
             obtain⟨x1,x2⟩:=HT6.out p _ (List.getElem?_eq_getElem lY);obtain⟨g6,e6,g6b,r6⟩:=T4.out.2 _ (List.getElem_mem lY);have HTP:Hid (T.getD p (.lf 0 0)=Y[p].1):=hid (by rw[←HY1.out,getD_map,List.getD,List.getElem?_eq_getElem lY];rfl);rw[e6] at x2;rw[←HTP.out] at r6;have R6:=hid r6;have g60:g0<g6:=by have:=S2.out;have:=G0.out;omega
             have X2:=hid x2
             have HTE:=hid (fun s=>tel_end (T:=T) (y:=ly e) (m:=i) (i:=p) (by rw[←HY1.out,List.length_map];exact lY) (fun s hs=>by
              rw[←HTT.out];exact row_cn0 hs L p (by rw[HTT.out,←HY1.out,List.length_map];exact lY)) s)
             clear x1 x2 r6 e6 HTP;go_wp2_with fail
             go_loopw [15] (fun v wr=> ∃q:Nat,v=.int .i64 q∧q≤i∧Hid (Br wr g0 k (tel T (ly e) p q)∧Kept (One g0) w4 wr)) (fun v _=>i - (intOf v).toNat)
             case atStart=>exact⟨0,rfl,Nat.zero_le _,HP⟩
             case round=>
              obtain⟨q,rfl,hq,HQ2⟩:=hrel;by_cases hq2:q<i
              · have hlk:ly e q<k:=((HL.out).is_ q hq2).1
                have y0:wr.cell? ⟨b1,o1+q,none⟩=some (.int .i64 (ly e q:Int)):=HQ2.out.2.cell (HC1.out q hq2) (fun h=>by have h':b1=g0:=h;omega);have y1:=HQ2.out.1.cell hlk;have y2:=HQ2.out.1.frozen (ly e q);have y3:=HQ2.out.2.cell X2.out (fun h=>by have h':b6=g0:=h;omega);have y4:=HQ2.out.2.cell (R6.out.cell hq2) (fun h=>by have h':g6=g0:=h;omega);have hst:=fun s=>tel_step (T:=T) (y:=ly e) (m:=i) LVN.out p hq2 s
                have HBr:=HQ2.out.1.set (ly e q) ((tel T (ly e) p q (ly e q)+(T.getD p (.lf 0 0)).cn (ly e q)%256)%256);have HB2:=HBr.congr (f':=tel T (ly e) p (q+1)) (fun s _=>hst s);have HK2:=HQ2.out.2.setCell ⟨g0,ly e q,none⟩ (.inl rfl) (.int .u8 (((tel T (ly e) p q (ly e q)+(T.getD p (.lf 0 0)).cn (ly e q)%256)%256:Nat):Int));obtain⟨u,hu⟩:∃u,tel T (ly e) p q (ly e q)=u:=⟨_,rfl⟩
                obtain⟨v,hv⟩:∃v,(T.getD p (.lf 0 0)).cn (ly e q)%256=v:=⟨_,rfl⟩
                obtain⟨s0,hs0⟩:∃s,ly e q=s:=⟨_,rfl⟩
                have ub:u<256:=by rw[←hu];exact Nat.mod_lt _ (by decide)
                have vb:v<256:=by rw[←hv];exact Nat.mod_lt _ (by decide)
                rw[hu] at y1 HB2 HK2;rw[hv] at y4 HB2 HK2;rw[hs0] at y0 y1 y2 hlk HB2 HK2;have e8:(((u+v)%256:Nat):Int)=((u:Int)+(v:Int))%256:=by omega
                rw[e8] at HB2 HK2;have HBB:=hid HB2;have HKK:=hid HK2;clear HBr HB2 HK2 hst hu hv hs0 e8;go_wp2_with fail
                go_region
                go_wp2_with fail;go_roundw
                case rel=>exact⟨q+1,by go_num,by omega,hid ⟨HBB.out.drew,HKK.out.drew⟩⟩
                case measure=>simp[intOf];omega
              · obtain rfl:q=i:=by omega
                go_wp2_with fail;go_roundw
                case rel=>exact⟨p+1,by go_num,by omega,hid ⟨HQ2.out.1.congr (fun s _=>by rw[HTE.out s,tel_zero]),HQ2.out.2⟩⟩
                case measure=>simp[intOf];omega
           · obtain rfl:p=2*i - 2:=by omega
             have hpi:¬(((2*i - 2:Nat):Int)<2*(i:Int) - 2):=by omega
             have HFIN:Hid (∀s,tel T (ly e) (2*i - 2) 0 s=pl i e L s):=hid (fun s=>by
              have h3:=pl_le HL.out HB.out h1 s;rw[tel_zero,←HTT.out];have h4:pl i e L s=ct s ((row (lvs (lw e) (ly e) i) L).take (2*i - 2)):=by unfold pl;rw[if_neg (by omega),if_neg (by omega)]
              rw[←h4];exact Nat.mod_eq_of_lt (by omega))
             have HBW:Hid (Below W.heap.size W wr):=hid ((B2.out.trans (B4.out.mono B2.out.size)).trans (HP.out.2.below (Nat.le_trans B2.out.size B4.out.size) (fun j hj=>by have h':j=g0:=hj;rw[h',G0.out];exact B1.out.size)));have HBR:=hid (HP.out.1.congr (f':=pl i e L) (fun s _=>HFIN.out s));clear HP;go_wp2_with fail;go_ret2;exact⟨_,rfl,by rw[G0.out];exact B1.out.size,HBR.out,HBW.out⟩
end Go.Proofs.YtdpabanajgegjaaGreatDoor
