/- Texts of one place, one behind the other: P8ChB, P8ChC, P8Bin, P8ChD, P8ChE, P8ChF. -/
import Derived.Test.YtacelhaidcmbcaaGreatDoorTP8ChA
import Derived.Test.YtacelhaidcmbcaaGreatDoorTMDrw
import Derived.Maps.AppendAt
import Derived.OwnWalk
import Derived.Test.YtacelhaidcmbcaaGreatDoorTMPkE
import Derived.Lib.LazyBuf
set_option maxHeartbeats 8000000
set_option maxRecDepth 1000000
set_option linter.unusedVariables false
set_option linter.unusedSimpArgs false
namespace Go.Proofs.YtacelhaidcmbcaaGreatDoor.V.Px
open Go Go.RowKit M
open Go.ChangeShapes (lits)
open Go.ChangeMaps (setBlock heap_setBlock_same heap_setBlock_other)
section
variable {B F:Nat} {s:ByteArray} {L:List Nat} {la:Int} {w:World}
theorem z6X{H:Type}{P:Program}{k:TypeId}{base:Nat}{e:TypeId}{q:IntKind}{b n m:Nat}{D:DataW H}(h:w.ownsGroups P k base e q b n D)(hn:n≤m):w.ownsGroups P k base e q b m D:=by
 obtain⟨es,clock,h1,h2,h3,h4,h5,h6,h7⟩:=h;exact⟨es,clock,h1,h2,qK h3 hn,h4,h5,fun x hx zs hz=>qK (h6 x hx zs hz) hn,h7⟩
theorem Fd.last(H:Fd w B F s L la)(x:Int):Fd (w.setCell ⟨F,1,none⟩ (.int .i64 x)) B F s L x∧Below B w (w.setCell ⟨F,1,none⟩ (.int .i64 x)):=by
 have hb:Below B w (w.setCell ⟨F,1,none⟩ (.int .i64 x)):=(Below.refl B w).setCell (p:=⟨F,1,none⟩) H.base _;obtain⟨b,base,D,h1,h2,h3,h4,h5,h6,h7⟩:=H.own;have hg:w.grownBy (w.setCell ⟨F,1,none⟩ (.int .i64 x)) (some F):=⟨rfl,rfl,rfl,by simp[World.setCell],fun k hk g=>Below.heap_setCell _ _ _ _ (fun e=>g (by rw[e]))⟩;refine⟨⟨(z33 (by decide)).trans H.c0,z4F H.c1,by rw[World.frozen?_setCell];exact H.fz,⟨b,base,D,(z33 (by decide)).trans h1,?_,h3,h4,by simpa [World.setCell] using h5,h6,h7⟩,H.base,H.rise,H.most,H.len⟩,hb⟩;exact h2.kept hg (fun e=>h6 (by injection e with e;exact e.symm)) (h2.rowsAbove (fun j hj=>by cases hj;exact h4))
theorem z5L(H:Fd w B F s L la){k:Nat}(h:∀p,p∈L→p<k)(hk:k<s.size):(L++[k]).Pairwise (· < ·)∧∀p,p∈L++[k]→p<s.size:=by
 refine⟨List.pairwise_append.2 ⟨H.rise,by simp,fun a ha c hc=> ?_⟩,fun p hp=> ?_⟩
 · simp at hc;subst hc;exact h a ha
 · rcases List.mem_append.1 hp with q|q
   · exact H.most p q
   · simp at q;subst q;exact hk
theorem Fd.short(H:Fd w B F s L la){k:Nat}(h:∀p,p∈L→p<k)(hk:k<s.size)(h3:¬k+3≤s.size):Fd w B F s (L++[k]) la:=by
 obtain⟨b,base,D,h1,h2,h3',h4,h5,h6⟩:=H.own;obtain⟨r1,r2⟩:=z5L H h hk;refine⟨H.c0,H.c1,H.fz,⟨b,base,D,h1,z6X h2 (by simp),h3'.congr (fun a c d _ _ _=> ?_),h4,h5,h6⟩,H.base,r1,r2,H.len⟩;rw[z89,if_neg (fun e=>h3 (z3x.1 e).1)]
theorem info_of{e:TypeId}{z:Value}{size bytes:Nat}(hi:(Tryz.prog.info? e).map (fun i=>(i.zero,i.size,i.bytes))=some (some z,size,bytes)):∃i,Tryz.prog.info? e=some i∧i.zero=some z∧i.size=size∧i.bytes=bytes:=by
 cases hq: Tryz.prog.info? e with
 |none=>rw[hq] at hi;cases hi
 |some i=>rw[hq] at hi;simp at hi;exact⟨i,rfl,hi.1,hi.2.1,hi.2.2⟩
theorem intInfo:(Tryz.prog.info? 3).map (fun i=>(i.zero,i.size,i.bytes))=some (some (.int .i64 0),1,8):=by kernel_rfl
theorem zhh(w:World):(zeroValue 130).run Tryz.prog w=.ok (.slice none 0 0) w:=by kernel_rfl
theorem zhl{o:Oper}{a:Act}{w:World}{K:Act→World→Prop}{Q:Exit→Act→World→Prop}{d:Option Tmp}(hd:o.dst=d)(sl x:Operand)(ho:o.op=.call {callee:=.builtin .append,args:= #[sl,x],argTypes:= #[130,130]})
 (base:Nat) (v:Value) (zs:List Int) (hs:a.eval sl=v) (hown:w.ownsInts base 3 .i64 v zs) (g:Nat) (y:Int) (hx:a.eval x=.slice (some ⟨g,0,none⟩) 1 1) (hG:w.cell? ⟨g,0,none⟩=some (.int .i64 y)) (hy:(Lit.int .i64 y).wf=true) (hm:zs.length≤1048576) (hb:base≤w.heap.size)
 (h:∀v' w',w'.ownsInts base 3 .i64 v' (zs++[y])→w.grownBy w' v.ownBlock→(v'.ownBlock=v.ownBlock∨v'.ownBlock=some w.heap.size)→K (a.put d v') w'):o.wp Tryz.prog a w K Q:=by
 obtain⟨i,h1,h2,h3,h4⟩:=info_of intInfo
 obtain⟨v',w',r1,r2,r3,_,r5⟩:=run_append_own_at (P:= Tryz.prog) w base 130 o.type 3 i _ 1 8 Tryz.underlying130 h1 h2 h3 h4 rfl (by decide) v zs.length (zs.map (Value.int .i64)) hown.1 ⟨g,0,none⟩ 1 1 [.int .i64 y] (by simp)
  (fun j u hu=>by
   match j,hu with
   |0,hu=>simp at hu;subst hu;simpa [Addr.add] using hG) (by intro u hu;simp at hu;subst hu;rfl) (by unfold maxLen;omega) (by omega) hb
 unfold Oper.wp execOp;simp only[ho,resolve,invoke,builtin,Sem.run_bind,Sem.run_pure,Result.andThen_ok,List.map_toArray,List.map_cons,List.map_nil,hs,hx,r1];subst hd;exact h v' w' (hown.appended r2 hy) r3 r5
theorem z6q{P:Program}{o:Oper}{a:Act}{w w':World}{K:Act→World→Prop}{Q:Exit→Act→World→Prop}(d:Option Tmp)(hd:o.dst=d)(t:TypeId)(m x:Operand)(ho:o.op=Op.mapEntry t m x)(mv key r:Value)(hm:a.eval m=mv)(hx:a.eval x=key)
 (hrun:(Instr.mapEntry t mv key).run P w=.ok r w') (h:K (a.put d r) w'):Oper.wp P o a w K Q:=by
 subst hd;unfold Oper.wp;simp[execOp,ho,hm,hx,hrun,Result.andThen];exact h
theorem z4v{P:Program}{o:Oper}{a:Act}{w w':World}{K:Act→World→Prop}{Q:Exit→Act→World→Prop}(d:Option Tmp)(hd:o.dst=d)(t:TypeId)(m x v:Operand)(ho:o.op=Op.entryStore t m x v)(mv st val:Value)(hm:a.eval m=mv)(hx:a.eval x=st)(hv:a.eval v=val)
 (hrun:(Instr.entryStore t mv st val).run P w=.ok () w') (h:K (a.put d undef) w'):Oper.wp P o a w K Q:=by
 subst hd;unfold Oper.wp;simp[execOp,ho,hm,hx,hv,hrun,Result.andThen];exact h
theorem z15{w:World}{a:Addr}{v:Value}(h:w.cell? a=some v)(o:Obj):(w.alloc o).cell? a=some v:=
 (World.cell?_of_block (w:=w) (Below.heap_alloc w o a.block (qB h))).trans h
theorem z08{w w':World}{a:Addr}{v:Value}(h:w.cell? a=some v){row:Option Nat}(hg:w.grownBy w' row)(hne:row≠some a.block):w'.cell? a=some v:=
 (World.cell?_of_block (hg.block a.block (qB h) (fun e=>hne e.symm))).trans h
end
end Go.Proofs.YtacelhaidcmbcaaGreatDoor.V.Px
namespace Go.Proofs.YtacelhaidcmbcaaGreatDoor.V.Px
open Go.Lib (hid)
open Go Go.RowKit M
open Go.ChangeShapes (lits)
open Go.ChangeMaps (setBlock heap_setBlock_same heap_setBlock_other)
def KT(F:Nat)(w w':World):Prop:=∀i cs T z,w.heap[i]? =some (.cells cs T z)→T≠ 3 →i≠F→w'.heap[i]? =some (.cells cs T z)
theorem KT.trans{F:Nat}{w w' w2:World}(h:KT F w w')(h':KT F w' w2):KT F w w2:=fun i cs T z q a b=>h' i cs T z (h i cs T z q a b) a b
theorem KT.of_below{F:Nat}{w w':World}(h:Below w.heap.size w w'):KT F w w':=fun i cs T z q _ _=>(h.block i (qW.1 q).1).trans q
theorem KT.setF(F:Nat)(w:World)(o:Nat)(v:Value):KT F w (w.setCell ⟨F,o,none⟩ v):=fun i cs T z q _ hF=>(Below.heap_setCell _ _ _ _ hF).trans q
section
variable {B F:Nat} {s:ByteArray} {L:List Nat} {la:Int} {w:World}
theorem zav(H:Fd w B F s L la)(k:Nat)(hk:k<s.size)(h:la<(k:Int))(hL:∀p,p∈L→p<k)(h3:¬k+3≤s.size):
 Calls Tryz.prog 89 #[.pointer (some ⟨F,0,none⟩),.int .i64 k] w fun e w'=>e=.returned (.int .i64 0)∧Fd w' B F s (L++[k]) k∧Below B w w'∧KT F w w':=by
 have h0:=H.c0;have hc1:=H.c1;have hl:=H.len;have hfz:=H.fz;have hF:=H.lt;have hBF:=H.base;have hBs:B≤w.heap.size:=by omega
 obtain⟨b,base,D,h2,_⟩:=H.own;have HM:=hid (z1q F b _ h2);obtain⟨HL,bL⟩:=H.last k;have HS:=hid (z40 HL k (by omega));have HP:=hid (HL.short hL hk h3);have BL:=hid bL;have KL:=hid (KT.setF F w 1 (.int .i64 k));clear H HL bL h2 hL;go_enter Tryz.func89,Tryz.ntmps89;go_wp2_with fail;refine HM.out.mono ?_;rintro e w' ⟨rfl,rfl⟩;go_wp2_with fail;refine HS.out.mono ?_;rintro e w2 ⟨rfl,b2⟩;have HP2:=hid (HP.out.below b2);have B2:=hid (BL.out.trans (b2.mono (qK hBs BL.out.size)));have K2:=hid (KL.out.trans (KT.of_below b2));clear b2;go_wp2_with fail;go_ret;exact⟨rfl,HP2.out.below (qL),B2.out.alloc (qK hBs B2.out.size) _,K2.out.trans (KT.of_below (qL))⟩
theorem z0t(w:World){b:Nat}(o:Obj){i:Nat}(h:i≠b):(setBlock w b o).heap[i]? =w.heap[i]? :=by
 simp[setBlock,Array.getElem?_setIfInBounds,h,Ne.symm h]
theorem z1S(w:World){b:Nat}(o:Obj)(h:b<w.heap.size):(setBlock w b o).heap[b]? =some o:=by
 simp[setBlock,h]
theorem zaw(H:Fd w B F s L la)(k:Nat)(hk:k<s.size)(hL:∀p,p∈L→p<k)(h3:k+3≤s.size):
 ∃ (b base:Nat) (v:Value) (zs:List Int) (st:Nat) (o:Obj),w.cell? ⟨F,2,none⟩=some (.map (some b))∧
  (∀u:World,u.heap[b]? =w.heap[b]? →(Instr.mapEntry 143 (.map (some b)) (z6n (byt s k) (byt s (k+1)) (byt s (k+2)))).run Tryz.prog u=.ok (.tuple #[v,goInt st]) (setBlock u b o))∧
  b<w.heap.size∧base≤w.heap.size∧F≠b∧F<base∧b<base∧w.ownsInts base 3 .i64 v zs∧zs.length≤1048576∧
  ∀ (u2:World) (v':Value),(setBlock w b o).grownBy u2 v.ownBlock→u2.ownsInts base 3 .i64 v' (zs++[(k:Int)])→(v'.ownBlock=v.ownBlock∨∃g,v'.ownBlock=some g∧w.heap.size≤g)→
   ∃u3,(Instr.entryStore 143 (.map (some b)) (goInt st) v').run Tryz.prog u2=.ok () u3∧Fd u3 B F s (L++[k]) la∧Below B w u3∧u2.grownBy u3 (some b)∧KT F w u3:=by
 obtain⟨b,base,D,h1,h2,hd,h4,h5,h6,h7⟩:=H.own;have hx0:=z1C s k;have hx1:=z1C s (k+1);have hx2:=z1C s (k+2);have hc:=H.count;have hl:=H.len;have hB:=H.base;have hbb:b<base:=by obtain⟨es,clock,_,_,_,_,q,_⟩:=h2;exact q
 obtain⟨v,zs,st,o,hent,hat,hown,hzl,hblt,hback⟩:=z63 h2 zac Tryz.underlying143 zhh (by unfold maxLen;omega) (z4H hx0 hx1 hx2);have hz:=hd.owned hx0 hx1 hx2 hat hown;have hvb:v.ownBlock≠some b:=fun e1=>by have:=(hown.1.lt b e1).1;omega
 have hvF:v.ownBlock≠some F:=fun e1=>by have:=(hown.1.lt F e1).1;omega
 refine⟨b,base,v,zs,st,o,h1,hent,hblt,h5,h6,h4,hbb,hown,by omega,fun u2 v' hg ho hloc=> ?_⟩;obtain⟨u3,hrun,hgr,hg3⟩:=hback u2 v' (zs++[(k:Int)]) hg ho (by simp;omega) hloc
 have hg1:w.grownBy (setBlock w b o) (some b):=by
  refine⟨rfl,rfl,rfl,by rw[z01];exact qR,fun i hi hne=> ?_⟩;obtain⟨es,clock,hbe,_⟩:=id h2;exact heap_setBlock_other hbe _ (fun e=>hne (by rw[e]))
 have hcell:∀i x,w.cell? ⟨F,i,none⟩=some x→u3.cell? ⟨F,i,none⟩=some x:=fun i x q=>
  z08 (z08 (z08 q hg1 (by simpa using fun e=>h6 e.symm)) hg hvF) hg3 (by simpa using fun e=>h6 e.symm)
 have hbel:Below B w u3:=(((Below.refl B w).grown hg1 (by omega) (fun j hj=>by cases hj;exact h7)).grown hg (by rw[z01];omega) (fun j hj=>by have:=(hown.1.lt j hj).1;omega)).grown hg3 (by have:=hg.size;rw[z01] at this;omega) (fun j hj=>by cases hj;exact h7)
 have hKT:KT F w u3:=fun i cs T z q hT hF=>by
  have hi:=(qW.1 q).1
  have hib:i≠b:=fun e=>by
   obtain⟨es,clock,hbe,_⟩:=id h2;rw[e,hbe] at q;cases q
  have hiv:v.ownBlock≠some i:=fun e=>by
   rcases hown.1.2 with⟨hv,_⟩|⟨g,cap,cur,hv,_,hh,_⟩
   · rw[hv] at e;cases e
   · rw[hv] at e
     simp[Value.ownBlock] at e;subst e;rw[hh] at q;injection q with q
     injection q with _ q _
     exact hT q.symm
  have e1:=hg1.block i hi (fun e=>hib (by injection e));have e2:=hg.block i (by rw[z01];exact hi) (fun e=>hiv e.symm);have e3:=hg3.block i (Nat.lt_of_lt_of_le (by rw[z01];exact hi) hg.size) (fun e=>hib (by injection e));exact(e3.trans (e2.trans e1)).trans q
 obtain⟨r1,r2⟩:=z5L H hL hk;refine⟨u3,hrun,⟨hcell 0 _ H.c0,hcell 1 _ H.c1,?_,⟨b,base,_,hcell 2 _ h1,?_,(hd.put hx0 hx1 hx2 (grp s L (byt s k) (byt s (k+1)) (byt s (k+2))++[k]) (by simp)).congr ?_,h4,qK h5 hbel.size,h6,h7⟩,H.base,r1,r2,H.len⟩,hbel,hg3,hKT⟩
 · have e1:=hg1.block F H.lt (by simpa using h6)
   have e2:=hg.block F (by rw[z01];exact H.lt) (fun e=>hvF e.symm);have e3:=hg3.block F (Nat.lt_of_lt_of_le (by rw[z01];exact H.lt) hg.size) (by simpa using h6);have:=World.frozen?_of_block (w:=w) (w':=u3) (a:=⟨F,1,none⟩) (e3.trans (e2.trans e1));rw[this];exact H.fz
 · rw[qA,List.length_singleton,zbs,←hz]
   rw[ho.datum_pos (by simp)] at hgr;exact hgr
 · intro a c d ha hcc hdd
   rw[z89];by_cases q:a=byt s k∧c=byt s (k+1)∧d=byt s (k+2)
   · obtain⟨rfl,rfl,rfl⟩:=q
     rw[if_pos ⟨rfl,rfl,rfl⟩,if_pos (z3x.2 ⟨h3,rfl,rfl,rfl⟩)]
   · rw[if_neg q,if_neg (fun e=>q (by
      obtain⟨_,e1,e2,e3⟩:=z3x.1 e;exact⟨e1.symm,e2.symm,e3.symm⟩))]
theorem zdd(H:Fd w B F s L la)(k:Nat)(hk:k<s.size)(h:la<(k:Int))(hL:∀p,p∈L→p<k)(h3:k+3≤s.size):
 Calls Tryz.prog 89 #[.pointer (some ⟨F,0,none⟩),.int .i64 k] w fun e w'=>e=.returned (.int .i64 0)∧Fd w' B F s (L++[k]) k∧Below B w w'∧KT F w w':=by
 have h0:=H.c0;have hc1:=H.c1;have hl:=H.len;have hfz:=H.fz;have hF:=H.lt;have hBF:=H.base;have hBs:B≤w.heap.size:=by omega
 obtain⟨b,base,D,h2,_⟩:=H.own;have HM:=hid (z1q F b _ h2);obtain⟨HL,bL⟩:=H.last k;have HS:=hid (z31 HL k h3);have HL':=hid HL;have hL':=hid hL;have BL:=hid bL;have KL:=hid (KT.setF F w 1 (.int .i64 k));have hx0:=z1C s k;have hx1:=z1C s (k+1);have hx2:=z1C s (k+2);obtain⟨x0,q0⟩:∃x,byt s k=x:=⟨_,rfl⟩
 obtain⟨x1,q1⟩:∃x,byt s (k+1)=x:=⟨_,rfl⟩
 obtain⟨x2,q2⟩:∃x,byt s (k+2)=x:=⟨_,rfl⟩
 rw[q0,q1,q2] at HS;rw[q0] at hx0;rw[q1] at hx1;rw[q2] at hx2;have Q0:=hid q0;have Q1:=hid q1;have Q2:=hid q2;clear H bL h2 q0 q1 q2 HL hL;go_enter Tryz.func89,Tryz.ntmps89;go_wp2_with fail;refine HM.out.mono ?_;rintro e w' ⟨rfl,rfl⟩;go_wp2_with fail;refine HS.out.mono ?_;rintro e w2 ⟨rfl,b2⟩;have H2:=hid (HL'.out.below b2);have B2:=hid (BL.out.trans (b2.mono (qK hBs BL.out.size)));have K2:=hid (KL.out.trans (KT.of_below b2));clear b2;obtain⟨b',base',v,zs,st,o,f1,fent,f3,f4,f5,f6,f6',fown,f8,fback⟩:=zaw H2.out k hk hL'.out h3;rw[Q0.out,Q1.out,Q2.out] at fent;have FE:=hid fent;have FB:=hid fback;have FO:=hid fown;have hFw:=H2.out.lt;have hvn:∀g,w2.heap.size≤g→v.ownBlock≠some g:=fun g hg e=>by have:=(fown.1.lt g e).2;omega
 have hvn2:∀g,g<base'→v.ownBlock≠some g:=fun g hg e=>by have:=(fown.1.lt g e).1;omega
 have HV:=hid hvn;have HV2:=hid hvn2
 have hrowc:∀i x,(#[Value.int .u8 x0,.int .u8 x1,.int .u8 x2]:Array Value)[i]? =some x→(w2.alloc (.cells #[.int .u8 x0,.int .u8 x1,.int .u8 x2] 207)).drew.cell? ⟨w2.heap.size,i,none⟩=some x:=fun i x q=>by
  have hh:(w2.alloc (.cells #[.int .u8 x0,.int .u8 x1,.int .u8 x2] 207)).drew.heap[w2.heap.size]? =some (.cells #[.int .u8 x0,.int .u8 x1,.int .u8 x2] 207 (0,0)):=heap_alloc_new _ _;simp only[World.cell?,hh];exact q
 have s0:(w2.alloc (.cells #[.int .u8 x0,.int .u8 x1,.int .u8 x2] 207)).drew.cell? ⟨F,2,none⟩=some (.map (some b')):=z15 f1 _;have s1:=hrowc 0 _ rfl;have s2:=hrowc 1 _ rfl;have s3:=hrowc 2 _ rfl;clear f1 fent fback fown hvn hvn2 hrowc;unfold z6n;go_wp2_with fail;refine Code.wp_mono (Q:=fun e a w'=>e=Exit.normal∧(∃v0 v1 v2 v3 v4 v5 v6 v7 v8 v9 v10 v11 v12 v13 v14 v15 v16 v17 v18 v19 v20 v21 v22 v23 v24 v25 v26 v27 v28 v29 v30 v31 v32 v33 v34 v35 v36 v37 v38 v39 v40 v41 v42 v43 v44 v45 v46 v47 v48:Value,a=(⟨#[v0,v1,v2,v3,v4,v5,v6,v7,v8,v9,v10,v11,v12,v13,v14,v15,v16,v17,v18,v19,v20,v21,v22,v23,v24,v25,v26,v27,v28,v29,v30,v31,v32,v33,v34,v35,v36,v37,v38,v39,v40,v41,v42,v43,v44,v45,v46,v47,v48],[]⟩:Act))∧Fd w' B F s (L++[k]) k∧Below B w2 w'∧KT F w2 w') ?_ ?_
 rotate_left
 · refine z2Y (fun u=>u.cell? ⟨F,2,none⟩=some (.map (some b'))∧u.cell? ⟨w2.heap.size,0,none⟩=some (.int .u8 x0)∧u.cell? ⟨w2.heap.size,1,none⟩=some (.int .u8 x1)∧u.cell? ⟨w2.heap.size,2,none⟩=some (.int .u8 x2)) ⟨s0,s1,s2,s3⟩ (fun hS=> ?_)
   clear s0 s1 s2 s3;refine z0a (i:=0) (d:=some 38) (v:= ?_) rfl rfl (by kernel_rfl) (by kernel_rfl) (by kernel_rfl) (fun _ _ _ h=>by cases h.1) (by rfl) (fun w hSw=> ?_) hS ?_;rotate_left;(focus ((try dsimp only at hSw);go_simp;(try with_reducible rfl)));(try simp only[Act.put,List.setIfInBounds_toArray,List.set_cons_zero,List.set_cons_succ]);refine z0a (i:=1) (d:=some 39) (v:= ?_) rfl rfl (by kernel_rfl) (by kernel_rfl) (by kernel_rfl) (fun _ _ _ h=>by cases h.1) (by rfl) (fun w hSw=> ?_) hS ?_;rotate_left;(focus ((try dsimp only at hSw);go_simp;(try with_reducible rfl)));(try simp only[Act.put,List.setIfInBounds_toArray,List.set_cons_zero,List.set_cons_succ]);refine z0a (i:=2) (d:=some 40) (v:= ?_) rfl rfl (by kernel_rfl) (by kernel_rfl) (by kernel_rfl) (fun _ _ _ h=>by cases h.1) (by rfl) (fun w hSw=> ?_) hS ?_;rotate_left;(focus ((try dsimp only at hSw);go_simp;(try with_reducible rfl)));(try simp only[Act.put,List.setIfInBounds_toArray,List.set_cons_zero,List.set_cons_succ]);refine z0a (i:=3) (d:=some 41) (v:= ?_) rfl rfl (by kernel_rfl) (by kernel_rfl) (by kernel_rfl) (fun _ _ _ h=>by cases h.1) (by rfl) (fun w hSw=> ?_) hS ?_;rotate_left;(focus ((try dsimp only at hSw);go_simp;(try with_reducible rfl)));(try simp only[Act.put,List.setIfInBounds_toArray,List.set_cons_zero,List.set_cons_succ]);refine z0a (i:=4) (d:=some 42) (v:= ?_) rfl rfl (by kernel_rfl) (by kernel_rfl) (by kernel_rfl) (fun _ _ _ h=>by cases h.1) (by rfl) (fun w hSw=> ?_) hS ?_;rotate_left;(focus ((try dsimp only at hSw);go_simp;(try with_reducible rfl)));(try simp only[Act.put,List.setIfInBounds_toArray,List.set_cons_zero,List.set_cons_succ]);refine z0a (i:=5) (d:=some 44) (v:= ?_) rfl rfl (by kernel_rfl) (by kernel_rfl) (by kernel_rfl) (fun _ _ _ h=>by cases h.1) (by rfl) (fun w hSw=> ?_) hS ?_;rotate_left;(focus ((try dsimp only at hSw);go_simp;(try with_reducible rfl)));(try simp only[Act.put,List.setIfInBounds_toArray,List.set_cons_zero,List.set_cons_succ]);refine z0B (i:=6) (by kernel_rfl) rfl (fun K hK=> ?_);go_simp;refine hK.out _ _ ⟨z15 hS.1 _,z15 hS.2.1 _,z15 hS.2.2.1 _,z15 hS.2.2.2 _⟩ (fun hS=> ?_);clear hK K
   (try simp only[Act.put,List.setIfInBounds_toArray,List.set_cons_zero,List.set_cons_succ])
   obtain⟨u0,hu0⟩:∃u0,((w2.alloc (.cells #[.int .u8 x0,.int .u8 x1,.int .u8 x2] 207)).alloc (.cells #[.int .i64 k] 3)).drew=u0:=⟨_,rfl⟩
   have hz0:u0.heap.size=w2.heap.size+2:=by rw[←hu0];simp[World.drew]
   have hb0:∀i,i<w2.heap.size→u0.heap[i]? =w2.heap[i]? :=fun i hi=>by
    rw[←hu0];exact(Below.heap_alloc (w2.alloc (.cells #[.int .u8 x0,.int .u8 x1,.int .u8 x2] 207)) _ i (by simp;omega)).trans (Below.heap_alloc w2 _ i hi)
   have hk0:u0.cell? ⟨w2.heap.size+1,0,none⟩=some (.int .i64 k):=by
    have hh:u0.heap[w2.heap.size+1]? =some (.cells #[.int .i64 k] 3 (0,0)):=by
     rw[←hu0];have:=heap_alloc_new (w2.alloc (.cells #[.int .u8 x0,.int .u8 x1,.int .u8 x2] 207)) (.cells #[.int .i64 k] 3)
     simpa [World.drew] using this
    simp[World.cell?,hh]
   have hos:u0.os=w2.os∧u0.tape=w2.tape∧u0.output=w2.output:=by rw[←hu0];exact⟨rfl,rfl,rfl⟩
   have hE:=FE.out u0 (hb0 b' f3)
   have hkept:∀ {a:Addr} {x:Value},u0.cell? a=some x→a.block≠b'→(setBlock u0 b' o).cell? a=some x:=fun {a x} q hne=>by
    have:(setBlock u0 b' o).heap[a.block]? =u0.heap[a.block]? :=z0t u0 o hne;exact(World.cell?_of_block this).trans q
   refine z0B (i:=7) (by kernel_rfl) rfl (fun K hK=> ?_);rw[if_pos (by rfl)];rw[hu0] at hS ⊢;refine z6q (some 46) rfl 143 _ _ rfl (.map (some b')) (z6n x0 x1 x2) _ rfl rfl hE ?_
   refine hK.out _ _ ⟨hkept hS.1 f5,hkept hS.2.1 (by simp;omega),hkept hS.2.2.1 (by simp;omega),hkept hS.2.2.2 (by simp;omega)⟩ (fun hS=> ?_);clear hK K
   (try simp only[Act.put,List.setIfInBounds_toArray,List.set_cons_zero,List.set_cons_succ])
   refine z0a (i:=8) (d:=some 43) (v:= ?_) rfl rfl (by kernel_rfl) (by kernel_rfl) (by kernel_rfl) (fun _ _ _ h=>by cases h.1) (by rfl) (fun w hSw=> ?_) hS ?_;rotate_left;(focus ((try dsimp only at hSw);go_simp;(try with_reducible rfl)));(try simp only[Act.put,List.setIfInBounds_toArray,List.set_cons_zero,List.set_cons_succ]);refine z0a (i:=10) (d:=some 48) (v:= ?_) rfl rfl (by kernel_rfl) (by kernel_rfl) (by kernel_rfl) (fun _ _ _ h=>by cases h.1) (by rfl) (fun w hSw=> ?_) hS ?_;rotate_left;(focus ((try dsimp only at hSw);go_simp;(try with_reducible rfl)));(try simp only[Act.put,List.setIfInBounds_toArray,List.set_cons_zero,List.set_cons_succ]);have g1:w2.grownBy (setBlock u0 b' o) (some b'):=⟨hos.1,hos.2.1,hos.2.2,by rw[z01];omega,fun i hi hne=>(z0t u0 o (fun e=>hne (by rw[e]))).trans (hb0 i hi)⟩
   have g0:(setBlock w2 b' o).grownBy (setBlock u0 b' o) v.ownBlock:=⟨hos.1,hos.2.1,hos.2.2,by rw[z01,z01];omega,fun i hi hne=>by
    rw[z01] at hi;by_cases c:i=b'
    · subst c
      rw[z1S u0 o (by omega),z1S w2 o f3]
    · rw[z0t u0 o c,z0t w2 o c];exact hb0 i hi⟩
   have hO:=FO.out.kept g1 (.inr (HV2.out b' f6'));refine z0B (i:=9) (by kernel_rfl) rfl (fun K hK=> ?_);rw[if_pos (by rfl)];refine zhl (d:=some 47) rfl _ _ rfl base' v zs rfl hO (w2.heap.size+1) k rfl (hkept hk0 (by simp;omega)) (by simp[Lit.wf,IntKind.min,IntKind.max,IntKind.signed,IntKind.bits];omega) f8 (by rw[z01];omega) (fun v' u2 o2 g2 l2=> ?_);refine hK.out _ _ ⟨z08 hS.1 g2 (HV2.out F f6),z08 hS.2.1 g2 (HV.out _ qR),z08 hS.2.2.1 g2 (HV.out _ qR),z08 hS.2.2.2 g2 (HV.out _ qR)⟩ (fun hS=> ?_);clear hK K
   (try simp only[Act.put,List.setIfInBounds_toArray,List.set_cons_zero,List.set_cons_succ])
   obtain⟨u3,hR,hF3,hB3,g3,hK3⟩:=FB.out u2 v' (g0.trans g2) o2 (l2.elim .inl (fun e=> .inr ⟨_,e,by rw[z01];omega⟩));refine z0B (i:=11) (by kernel_rfl) rfl (fun K hK=> ?_);rw[if_pos (by rfl)];refine z4v none rfl 143 _ _ _ rfl (.map (some b')) (goInt st) v' rfl rfl rfl hR ?_
   refine hK.out _ _ ⟨z08 hS.1 g3 (by simp;omega),z08 hS.2.1 g3 (by simp;omega),z08 hS.2.2.1 g3 (by simp;omega),z08 hS.2.2.2 g3 (by simp;omega)⟩ (fun hS=> ?_);clear hK K
   (try simp only[Act.put,List.setIfInBounds_toArray,List.set_cons_zero,List.set_cons_succ])
   refine wpAnyH_done (by kernel_rfl) ?_ _;exact⟨rfl,⟨_,_,_,_,_,_,_,_,_,_,_,_,_,_,_,_,_,_,_,_,_,_,_,_,_,_,_,_,_,_,_,_,_,_,_,_,_,_,_,_,_,_,_,_,_,_,_,_,_,rfl⟩,hF3,hB3,hK3⟩
 · rintro e a w3 ⟨rfl,⟨v0,v1,v2,v3,v4,v5,v6,v7,v8,v9,v10,v11,v12,v13,v14,v15,v16,v17,v18,v19,v20,v21,v22,v23,v24,v25,v26,v27,v28,v29,v30,v31,v32,v33,v34,v35,v36,v37,v38,v39,v40,v41,v42,v43,v44,v45,v46,v47,v48,rfl⟩,hF3,hB3,hK3⟩
   have HF3:=hid hF3;have HB3:=hid (B2.out.trans hB3);have HK3:=hid (K2.out.trans hK3);clear hF3 hB3 hK3;go_wp2_with fail;go_ret;exact⟨rfl,HF3.out,HB3.out,HK3.out⟩
theorem zhL(H:Fd w B F s L la)(k:Nat)(hk:k<s.size)(h:la<(k:Int))(hL:∀p,p∈L→p<k):
 Calls Tryz.prog 89 #[.pointer (some ⟨F,0,none⟩),.int .i64 k] w fun e w'=>e=.returned (.int .i64 0)∧Fd w' B F s (L++[k]) k∧Below B w w'∧KT F w w':=by
 by_cases c:k+3≤s.size
 · exact zdd H k hk h hL c
 · exact zav H k hk h hL c
end
end Go.Proofs.YtacelhaidcmbcaaGreatDoor.V.Px
namespace Go.Proofs.YtacelhaidcmbcaaGreatDoor.V.Px
open Go.Lib (hid)
open Go Go.RowKit M
theorem zdw(a:Int)(w:World):Calls Tryz.prog 160 #[.int .i64 a] w fun e w'=>e=.returned (.bool false)∧w=w':=by
 go_enter Tryz.func160,Tryz.ntmps160;go_wp2;go_ret;exact⟨rfl,rfl⟩
theorem zdv(a:Int)(w:World):Calls Tryz.prog 176 #[.int .i64 a] w fun e w'=>e=.returned (.bool false)∧w=w':=by
 go_enter Tryz.func176,Tryz.ntmps176;go_wp2;go_ret;exact⟨rfl,rfl⟩
theorem less_any(a c:Int)(w:World):Calls Tryz.prog 159 #[.int .i64 a,.int .i64 c] w fun e w'=>e=.returned (.bool (decide (a<c)))∧w=w':=by
 go_enter Tryz.func159,Tryz.ntmps159;go_wp2_with (go_at_call 176;refine(zdv _ _).mono ?_;rintro e w' ⟨rfl,rfl⟩);go_ret;exact⟨rfl,rfl⟩
structure Bs(f:Nat→Int)(n:Nat)(x:Int)(i:Nat):Prop where
 le:i≤n
 lo:i=0∨f (i - 1)<x
 hi:i=n∨x≤f i
def zhb(f:Nat→Int)(n:Nat)(x:Int)(W:World)(e:Ending)(w':World):Prop:=∃ (i:Nat) (bb:Bool),e=.returned (.tuple #[.int .i64 i,.bool bb])∧Bs f n x i∧W=w'
theorem zgY(A:Option Addr)(n c:Nat)(f:Nat→Int)(x:Int)(W:World)(hn:n≤1048576)(H:z09 W .i64 A n f):
 Calls Tryz.prog 141 #[.slice A n c,.int .i64 x] W (zhb f n x W):=by
 have HH:=hid H;clear H;go_enter Tryz.func141,Tryz.ntmps141;go_wp2_with fail
 go_loop [7,8] (fun i j=> ∃a d:Nat,i=.int .i64 a∧j=.int .i64 d∧a≤d∧d≤n∧(a=0∨f (a - 1)<x)∧(d=n∨x≤f d)) (fun i j=>((intOf j) - (intOf i)).toNat)
 case atStart=>exact⟨0,n,rfl,rfl,by omega,qR,.inl rfl,.inl rfl⟩
 case round=>
  obtain⟨a,d,rfl,rfl,h1,h2,h3,h4⟩:=hrel;have H3:=hid h3;have H4:=hid h4;clear h3 h4;by_cases hlt:a<d
  · obtain⟨h,hh⟩:∃h,(a+d) /2=h:=⟨_,rfl⟩
    have hh1:a≤h:=by omega
    have hh2:h<d:=by omega
    have hh3:h<n:=by omega
    have e1:((a:Int)+(d:Int)) /2=(h:Int):=by omega
    obtain⟨b,o,rfl,_,hcs⟩:=HH.out (by omega);have hc:=hcs h hh3;clear hh hcs;obtain⟨y,hy⟩:∃y,f h=y:=⟨_,rfl⟩
    rw[hy] at hc;have HY:=hid hy;clear hy;go_wp2_with (go_at_call 159;refine(less_any _ _ _).mono ?_;rintro e w' ⟨rfl,rfl⟩)
    · have q:y<x:=by assumption
      go_round
      case rel=>exact⟨h+1,d,by go_num,rfl,by omega,by omega,.inr (by rw[Nat.add_sub_cancel,HY.out];exact q),H4.out⟩
      case measure=>simp[intOf];omega
    · have q:x≤y:=by assumption
      go_round
      case rel=>exact⟨a,h,rfl,rfl,by omega,by omega,H3.out,.inr (by rw[HY.out];exact q)⟩
      case measure=>simp[intOf];omega
  · obtain rfl:a=d:=by omega
    by_cases g:a<n
    · obtain⟨b,o,rfl,_,hcs⟩:=HH.out (by omega)
      have hc:=hcs a g;obtain⟨y,hy⟩:∃y,f a=y:=⟨_,rfl⟩
      rw[hy] at hc;clear hy hcs;go_wp2_with (go_at_call 160;refine(zdw _ _).mono ?_;rintro e w' ⟨rfl,rfl⟩)
      all_goals
       go_ret2;exact⟨a,_,rfl,⟨h2,H3.out,H4.out⟩,rfl⟩
    · go_wp2_with fail
      go_ret2;exact⟨a,_,rfl,⟨h2,H3.out,H4.out⟩,rfl⟩
theorem zgC(b o j:Nat):(⟨b,o,none⟩:Addr).add j=⟨b,o+j,none⟩:=by
 unfold Addr.add
 split
 · rename_i h;subst h;rfl
 · rfl
end Go.Proofs.YtacelhaidcmbcaaGreatDoor.V.Px
namespace Go.Proofs.YtacelhaidcmbcaaGreatDoor.V.Px
open Go.Lib (hid)
open Go Go.RowKit M
open Go.ChangeShapes (lits)
section
variable {B F:Nat} {s:ByteArray} {L:List Nat} {la:Int} {w:World}
theorem ze9(H:Fd w B F s L la)(x d:Int)(hx:x<0∨(s.size:Int) - 3<x):
 Calls Tryz.prog 118 #[.pointer (some ⟨F,0,none⟩),.int .i64 x,.int .i64 d] w fun e w'=>e=.returned (.slice none 0 0)∧Below w.heap.size w w':=by
 have HS:Hid (Calls Tryz.prog 116 #[.pointer (some ⟨F,0,none⟩),.int .i64 x] w fun e w'=>e=.returned (.tuple #[.agg #[.int .u8 0,.int .u8 0,.int .u8 0],.bool false])∧Below w.heap.size w w'):=by
  rcases hx with h|h
  · exact hid (z5E H x h)
  · exact hid (z40 H x h)
 clear H hx;go_enter Tryz.func118,Tryz.ntmps118;go_wp2_with fail;refine HS.out.mono ?_;rintro e w2 ⟨rfl,b2⟩;have B2:=hid b2;clear b2;go_wp2_with fail;go_ret;exact⟨rfl,B2.out.alloc B2.out.size _⟩
theorem zea(H:Fd w B F s L la)(k:Nat)(d:Int)(hk:k+3≤s.size)(hd:d<1):
 Calls Tryz.prog 118 #[.pointer (some ⟨F,0,none⟩),.int .i64 k,.int .i64 d] w fun e w'=>e=.returned (.slice none 0 0)∧Below w.heap.size w w':=by
 have HS:=hid (z31 H k hk);obtain⟨x0,q0⟩:∃x,byt s k=x:=⟨_,rfl⟩
 obtain⟨x1,q1⟩:∃x,byt s (k+1)=x:=⟨_,rfl⟩
 obtain⟨x2,q2⟩:∃x,byt s (k+2)=x:=⟨_,rfl⟩
 rw[q0,q1,q2] at HS;clear H q0 q1 q2;go_enter Tryz.func118,Tryz.ntmps118;go_wp2_with fail;refine HS.out.mono ?_;rintro e w2 ⟨rfl,b2⟩;have B2:=hid b2;clear b2;unfold z6n;go_wp2_with fail;go_ret;exact⟨rfl,B2.out.alloc B2.out.size _⟩
def z29(s:ByteArray)(L:List Nat)(k:Nat)(d:Int)(W:World)(e:Ending)(w':World):Prop:=
 ∃A c,e=.returned (.slice A (nr s L k d).length c)∧(0<(nr s L k d).length→∃b o cur,A=some ⟨b,o,none⟩∧w'.heap[b]? =some (.cells cur 3 (0,0))∧∀i,i<(nr s L k d).length→cur[o+i]? =some (.int .i64 (((nr s L k d).reverse.getD i 0:Nat):Int)))∧Below W.heap.size W w'
theorem zbm(H:Fd w B F s L la)(k:Nat):∃ (b:Nat) (A:Option Addr) (c:Nat),w.cell? ⟨F,2,none⟩=some (.map (some b))∧b<w.heap.size∧
 (∀u:World,u.heap[b]? =w.heap[b]? →(Instr.lookup 143 (.map (some b)) (z6n (byt s k) (byt s (k+1)) (byt s (k+2))) false).run Tryz.prog u=.ok (.slice A (grp s L (byt s k) (byt s (k+1)) (byt s (k+2))).length c) u)∧
 (grp s L (byt s k) (byt s (k+1)) (byt s (k+2))).length≤c∧c≤maxLen∧(0<c→∃g cur,A=some ⟨g,0,none⟩∧w.heap[g]? =some (.cells cur 3 (0,0))∧g<w.heap.size∧∀i,i<(grp s L (byt s k) (byt s (k+1)) (byt s (k+2))).length→cur[i]? =some (.int .i64 (((grp s L (byt s k) (byt s (k+1)) (byt s (k+2))).getD i 0:Nat):Int))):=by
 obtain⟨b,base,D,h1,h2,hd,h4,h5,h6,h7⟩:=H.own;have hx0:=z1C s k;have hx1:=z1C s (k+1);have hx2:=z1C s (k+2);have hc:=H.count;have hl:=H.len;obtain⟨v,zs,hlook,hat,hown,hzl⟩:=z6Y h2 zeG Tryz.underlying143 zhh (by unfold maxLen;omega) (z4H hx0 hx1 hx2);have hz:=hd.owned hx0 hx1 hx2 hat hown;obtain⟨es,clock,hbe,_⟩:=id h2;have hblt:b<w.heap.size:=(qW.1 hbe).1;have hlen:zs.length=(grp s L (byt s k) (byt s (k+1)) (byt s (k+2))).length:=by rw[hz,z6S]
 rcases hown.1.2 with⟨rfl,h0⟩|⟨g,cap,cur,rfl,hg,hh,hnc,hcm,hcs,ht⟩
 · refine⟨b,none,0,h1,hblt,fun u hu=> ?_,by omega,by unfold maxLen;omega,fun q=>by omega⟩
   rw[hlook u hu,←hlen,h0]
 · refine⟨b,some ⟨g,0,none⟩,cap,h1,hblt,fun u hu=> ?_,by omega,hcm,fun _=>⟨g,cur,rfl,hh,(qW.1 hh).1,fun i hi=> ?_⟩⟩
   · rw[hlook u hu,←hlen]
   · have e1:(cur.toList.take (zs.length*1))[i]? =(zs.map (Value.int .i64))[i]? :=by rw[ht]
     rw[List.getElem?_take,if_pos (by omega)] at e1;rw[←Array.getElem?_toList,e1,hz];simp[zdT,List.getD,qE hi]
end
theorem zfi{l:List Nat}(hs:l.Pairwise (· < ·)){x:Int}{i:Nat}(h:Bs (fun i=>((l.getD i 0:Nat):Int)) l.length x i):
 (∀ (j y:Nat),l[j]? =some y→j<i→(y:Int)<x)∧(∀ (j y:Nat),l[j]? =some y→i≤j→x≤(y:Int)):=by
 have hp:=List.pairwise_iff_getElem.1 hs;have hle:=h.le
 have mono:∀ (a b y z:Nat),l[a]? =some y→l[b]? =some z→a≤b→y≤z:=fun a b y z ha hb hab=>by
  obtain⟨h1,e1⟩:=List.getElem?_eq_some_iff.1 ha;obtain⟨h2,e2⟩:=List.getElem?_eq_some_iff.1 hb;by_cases c:a=b
  · subst c;rw[←e1,←e2];exact qR
  · have:=hp a b h1 h2 (by omega)
    omega
 constructor
 · intro j y hj hlt
   rcases h.lo with e|e
   · omega
   · have hi:i - 1<l.length:=by omega
     have h1:l[i - 1]? =some (l.getD (i - 1) 0):=by simp[List.getD,qE hi]
     have:=mono _ _ _ _ hj h1 (by omega);omega
 · intro j y hj hle'
   have hjl:=(List.getElem?_eq_some_iff.1 hj).1;rcases h.hi with e|e
   · omega
   · have hi:i<l.length:=by omega
     have h1:l[i]? =some (l.getD i 0):=by simp[List.getD,qE hi]
     have:=mono _ _ _ _ h1 hj hle';omega
theorem zhT(s:ByteArray)(L:List Nat)(k:Nat)(d:Int):(nr s L k d).reverse=(cnd s L k).drop ((cnd s L k).length - d.toNat):=by
 unfold nr;rw[List.take_reverse,List.reverse_reverse]
theorem zc9{s:ByteArray}{L:List Nat}{k:Nat}(hk:k+3≤s.size)(hs:L.Pairwise (· < ·)){l:List Nat}(hl:grp s L (byt s k) (byt s (k+1)) (byt s (k+2))=l){fr to:Nat}{d:Int}(hd:1≤d)
 (h1:Bs (fun i=>((l.getD i 0:Nat):Int)) l.length ((k:Int) - 32768) fr) (h2:Bs (fun i=>((l.getD i 0:Nat):Int)) l.length (k:Int) to):
 fr≤to∧∀lo:Nat,(lo:Int)=max (fr:Int) ((to:Int) - d)→lo≤to∧(nr s L k d).length=to - lo∧∀i,i<to - lo→(nr s L k d).reverse.getD i 0=l.getD (lo+i) 0:=by
 have hp:l.Pairwise (· < ·):=by rw[←hl];exact hs.filter _
 obtain⟨a1,a2⟩:=zfi hp h1;obtain⟨b1,b2⟩:=zfi hp h2;have f1:=h1.le;have f2:=h2.le
 have hft:fr≤to:=by
  apply Classical.byContradiction
  intro c;have hi:to<l.length:=by omega
  have e:l[to]? =some (l.getD to 0):=by simp[List.getD,qE hi]
  have g1:=a1 _ _ e (by omega);have g2:=b2 _ _ e qR;omega
 have hc:=zgN hk hl.symm a1 a2 (fun j y q r=>by have:=b1 j y q r;omega) (fun j y q r=>by have:=b2 j y q r;omega);have hcl:(cnd s L k).length=to - fr:=by rw[hc,List.length_drop,List.length_take];omega
 refine⟨hft,fun lo hlo=> ?_⟩;have hlt:lo≤to:=by omega
 refine⟨hlt,by rw[z7V,hcl];omega,fun i hi=> ?_⟩;rw[zhT,hcl,hc,List.drop_drop,List.getD,List.getD,List.getElem?_drop,List.getElem?_take,if_pos (by omega)];congr 2;omega
section
variable {B F:Nat} {s:ByteArray} {L:List Nat} {la:Int} {w:World}
theorem ze8(H:Fd w B F s L la)(k:Nat)(d:Int)(hk:k+3≤s.size)(hd:1≤d)(hd2:d≤9223372036854775807):
 Calls Tryz.prog 118 #[.pointer (some ⟨F,0,none⟩),.int .i64 k,.int .i64 d] w (z29 s L k d w):=by
 have HS:=hid (z31 H k hk);have HH:=hid H;have hl:=H.len;obtain⟨x0,q0⟩:∃x,byt s k=x:=⟨_,rfl⟩
 obtain⟨x1,q1⟩:∃x,byt s (k+1)=x:=⟨_,rfl⟩
 obtain⟨x2,q2⟩:∃x,byt s (k+2)=x:=⟨_,rfl⟩
 have Q0:=hid q0;have Q1:=hid q1;have Q2:=hid q2;rw[q0,q1,q2] at HS;clear H q0 q1 q2;go_enter Tryz.func118,Tryz.ntmps118;go_wp2_with fail;refine HS.out.mono ?_;rintro e w2 ⟨rfl,b2⟩;have H2:=hid (HH.out.below b2);have B2:=hid b2;clear b2;obtain⟨b,A,c,f1,f2,f3,f4,f4',f5⟩:=zbm H2.out k
 have hcnt:(grp s L (byt s k) (byt s (k+1)) (byt s (k+2))).length≤1048576:=by
  have h1:=H2.out.count;have h2:(grp s L (byt s k) (byt s (k+1)) (byt s (k+2))).length≤L.length:=List.length_filter_le _ _;omega
 obtain⟨l,hl'⟩:∃l,grp s L (byt s k) (byt s (k+1)) (byt s (k+2))=l:=⟨_,rfl⟩
 rw[hl'] at f3 f4 f5 hcnt;rw[Q0.out,Q1.out,Q2.out] at f3;have HL:=hid hl';have F3:=hid (fun n=>f3 ((w2.alloc (.cells #[.int .u8 x0,.int .u8 x1,.int .u8 x2] 207)).drewN n) (Below.heap_alloc w2 _ b f2));have F5:=hid f5;have hF:=H2.out.lt;have g1:(w2.alloc (.cells #[.int .u8 x0,.int .u8 x1,.int .u8 x2] 207)).cell? ⟨F,2,none⟩=some (.map (some b)):=z15 f1 _;unfold maxLen at f4';clear f1 f3 f5 hl';obtain⟨m,hm⟩:∃m,l.length=m:=⟨_,rfl⟩
 rw[hm] at f4 hcnt F3 F5;have HM:=hid hm;clear hm;unfold z6n;go_wp2_with fail;have f3:=F3.out;unfold z6n at f3
 go_quiet (fail)
 clear f3
 have HN:=hid (show ∀W',Below w2.heap.size w2 W'→z09 W' .i64 A m (fun i=>((l.getD i 0:Nat):Int)) from fun W' hb hm=>by
  obtain⟨g,cur,e1,e2,e3,e4⟩:=F5.out (by omega);refine⟨g,0,e1,Nat.lt_of_lt_of_le e3 hb.size,fun i hi=> ?_⟩;rw[Nat.zero_add];refine(hb.cell (p:=⟨g,i,none⟩) e3).trans ?_
  rw[cell_of_row _ _ _ _ _ _ e2];exact e4 i hi)
 have HB:=hid (fun x W' hb=>zgY A m c (fun i=>((l.getD i 0:Nat):Int)) x W' hcnt (HN.out W' hb));go_wp2_with fail;refine(HB.out _ _ (z00 (qL) _)).mono ?_;rintro e w3 ⟨fr,bb1,rfl,hfr,rfl⟩;have HFr:=hid hfr;have hfr1:=hfr.le;clear hfr;go_wp2_with fail;refine(HB.out _ _ (z00 (qL) _)).mono ?_;rintro e w3 ⟨to,bb2,rfl,hto,rfl⟩;have HTo:=hid hto;have hto1:=hto.le;clear hto;have HMt:=hid (zc9 hk H2.out.rise HL.out hd (by rw[HM.out];exact HFr.out) (by rw[HM.out];exact HTo.out));obtain⟨hft,HMt2⟩:=HMt.out;have HMt2:=hid HMt2;clear HMt;obtain⟨lo,hlo⟩:∃lo:Nat,(lo:Int)=max (fr:Int) ((to:Int) - d):=⟨(max (fr:Int) ((to:Int) - d)).toNat,by omega⟩
 obtain⟨hl1,hl2,hl3⟩:=HMt2.out lo hlo;have hl4:fr≤lo:=by omega
 have HL2:=hid hl2;have HL3:=hid hl3;obtain⟨X,hX⟩:∃X,(if c=lo then A else Option.map (fun x=>x.add lo) A)=X:=⟨_,rfl⟩
 have HF:Hid (0<to - lo→∃b o cur,X=some ⟨b,o,none⟩∧w2.heap[b]? =some (.cells cur 3 (0,0))∧b<w2.heap.size∧∀i,i<to - lo→cur[o+i]? =some (.int .i64 ((l.getD (lo+i) 0:Nat):Int))):=hid fun hp=>by
  obtain⟨g,cur,e1,e2,e3,e4⟩:=F5.out (by omega);refine⟨g,lo,cur,?_,e2,e3,fun i hi=>e4 (lo+i) (by omega)⟩;rw[←hX,if_neg (by omega),e1];simp only[Option.map];rw[zgC,Nat.zero_add]
 have HE:Hid (∀n,z29 s L k d w (.returned (.slice X (to - lo) (c - lo))) ((w2.alloc (.cells #[.int .u8 x0,.int .u8 x1,.int .u8 x2] 207)).drewN n)):=hid fun n=>by
  unfold z29;rw[HL2.out];refine⟨X,_,rfl,fun hp=> ?_,z00 (B2.out.alloc B2.out.size _) n⟩;obtain⟨b,o,cur,e1,e2,e3,e4⟩:=HF.out hp;exact⟨b,o,cur,e1,(Below.heap_alloc w2 _ b e3).trans e2,fun i hi=>by rw[HL3.out i hi];exact e4 i hi⟩
 clear HMt2 hl2 hl3;by_cases hc:(fr:Int)<(to:Int) - d
 · have q1:(to:Int) - d=(lo:Int):=by omega
   have hlc:lo≤c:=by omega
   have q2:max (fr:Int) (lo:Int)=(lo:Int):=by omega
   clear hlo;go_wp2_with fail;go_ret;exact HE.out _
 · obtain rfl:lo=fr:=by omega
   have q2:max (lo:Int) ((to:Int) - d)=(lo:Int):=by omega
   clear hlo;go_wp2_with fail;go_ret;exact HE.out _
theorem z7U{s:ByteArray}{L:List Nat}{k:Nat}{d:Int}(h:d<1∨¬k+3≤s.size):(nr s L k d).length=0:=by
 rw[z7V];rcases h with h|h
 · have:d.toNat=0:=by omega
   rw[this];exact Nat.zero_min _
 · unfold cnd
   rw[if_neg h];exact Nat.min_zero _
theorem zeb(H:Fd w B F s L la)(k:Nat)(d:Int)(hd2:d≤9223372036854775807):
 Calls Tryz.prog 118 #[.pointer (some ⟨F,0,none⟩),.int .i64 k,.int .i64 d] w (z29 s L k d w):=by
 by_cases c1:k+3≤s.size
 · by_cases c2:d<1
   · refine(zea H k d c1 c2).mono ?_
     rintro e w' ⟨rfl,b⟩;exact⟨none,0,by rw[z7U (.inl c2)],fun hp=>by rw[z7U (.inl c2)] at hp;omega,b⟩
   · exact ze8 H k d c1 (by omega) hd2
 · refine(ze9 H k d (.inr (by omega))).mono ?_
   rintro e w' ⟨rfl,b⟩;exact⟨none,0,by rw[z7U (.inr c1)],fun hp=>by rw[z7U (.inr c1)] at hp;omega,b⟩
theorem zhU(H:Fd w B F s L la)(k:Nat)(d:Int):(nr s L k d).length≤1048576:=by
 have h1:=H.count;have h2:=H.len
 have h3:(cnd s L k).length≤L.length:=by
  unfold cnd;by_cases c:k+3≤s.size
  · rw[if_pos c]
    exact qK (List.length_filter_le _ _) (List.length_filter_le _ _)
  · rw[if_neg c];exact qZ
 rw[z7V];omega
end
end Go.Proofs.YtacelhaidcmbcaaGreatDoor.V.Px
namespace Go.Proofs.YtacelhaidcmbcaaGreatDoor.V.Px
open Go.Lib (hid)
open Go Go.RowKit M
section
variable {B F:Nat} {s:ByteArray} {L:List Nat} {la:Int} {w:World}
theorem alike_any(H:Fd w B F s L la)(p k:Nat)(hp:p<k)(hk:k+3≤s.size)(h3:3≤lng s p k):
 Calls Tryz.prog 119 #[.pointer (some ⟨F,0,none⟩),.int .i64 p,.int .i64 k] w fun e w'=>e=.returned (.int .i64 (lng s p k))∧∃n,w'=w.drewN n:=by
 have h0:=H.c0;have hl:=H.len;obtain⟨ms,hms⟩:∃ms,most s k=ms:=⟨_,rfl⟩
 have e1:(if(s.size:Int) - (k:Int)<258 then(s.size:Int) - (k:Int) else 258)=(ms:Int):=by
  rw[←hms];unfold most;by_cases c:(s.size:Int) - (k:Int)<258
  · rw[if_pos c];omega
  · rw[if_neg c];omega
 have e2:min (258:Int) ((s.size:Int) - (k:Int))=(ms:Int):=by rw[←hms];unfold most;omega
 have hm2:ms≤258∧k+ms≤s.size∧3≤ms:=by rw[←hms];unfold most;omega
 have HG:=hid (z5X s p k);have HMS:=hid hms;clear H hms;obtain⟨z,hz⟩:∃z,lng s p k=z:=⟨_,rfl⟩
 rw[hz] at h3 HG ⊢;have hzm:z≤ms:=by have:=HG.out.le;rw[HMS.out] at this;exact this
 clear hz;go_enter Tryz.func119,Tryz.ntmps119;go_wp2_with fail
 go_loopw [8] (fun i wr=> ∃n c:Nat,i=.int .i64 n∧n≤z∧wr=w.drewN c) (fun i _=>z - (intOf i).toNat)
 case atStart=>exact⟨3,0,rfl,h3,rfl⟩
 case round=>
  obtain⟨n,c,rfl,hn,rfl⟩:=hrel;by_cases c1:n<ms
  · have d1:decide (n<ms)=true:=q9T c1
    have d1':decide ((n:Int)<(ms:Int))=true:=q9T (by omega);obtain⟨x,hx⟩:∃x,p+n=x:=⟨_,rfl⟩
    obtain⟨y,hy⟩:∃y,k+n=y:=⟨_,rfl⟩
    have i1:x<s.size:=by omega
    have i2:y<s.size:=by omega
    have b1:=z0H i1;have b2:=z0H i2;have w1:IntKind.i64.wrap ((p:Int)+(n:Int))=(x:Int):=by rw[IntWalk.i64_in _ (by omega)];omega
    have w2:IntKind.i64.wrap ((k:Int)+(n:Int))=(y:Int):=by rw[IntWalk.i64_in _ (by omega)];omega
    have w3:(p:Int)+(n:Int)=(x:Int):=by omega
    have w4:(k:Int)+(n:Int)=(y:Int):=by omega
    by_cases c2:byt s x=byt s y
    · have c3:n<z:=by
       rcases Nat.lt_or_ge n z with g|g
       · exact g
       · obtain rfl:n=z:=by omega
         rcases HG.out.stop with q|q
         · rw[HMS.out] at q;omega
         · rw[hx,hy] at q;exact absurd c2 q
      have ee:(((s[x]'i1).toNat:Int)==((s[y]'i2).toNat:Int))=true:=by rw[b1,b2,c2];simp
      clear b1 b2 c2 hx hy;go_wp2_with fail
      go_quiet (fail)
      clear w3 w4;go_wp2_with fail;go_roundw
      case rel=>exact⟨n+1,_,by go_num,by omega,rfl⟩
      case measure=>simp[intOf];omega
    · have c3:n=z:=by
       rcases Nat.lt_or_ge n z with g|g
       · have:=HG.out.same n g
         rw[hx,hy] at this;exact absurd this c2
       · omega
      have ee:(((s[x]'i1).toNat:Int)==((s[y]'i2).toNat:Int))=false:=by rw[b1,b2,qN];omega
      clear b1 b2 c2 hx hy;subst c3;go_wp2_with fail
      go_quiet (fail)
      clear w3 w4;go_wp2_with fail;go_ret;exact⟨rfl,_,World.drewN_drewN _ _ _⟩
  · have d1:decide (n<ms)=false:=qF c1
    have d1':decide ((n:Int)<(ms:Int))=false:=qF (by omega);obtain rfl:n=z:=by omega
    go_wp2_with fail
    go_quiet (fail)
    go_wp2_with fail;go_ret;exact⟨rfl,_,World.drewN_drewN _ _ _⟩
end
end Go.Proofs.YtacelhaidcmbcaaGreatDoor.V.Px
