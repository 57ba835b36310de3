/- Texts of one place, one behind the other: P8Ent, P8Key. -/
import Derived.Test.YtacelhaidcmbcaaGreatDoorTMP8Cpy
import Derived.Maps.OwnRows
import Derived.Maps.GroupsBeside
import Derived.WideKeyEntry
import Derived.Test.YtacelhaidcmbcaaGreatDoorTMMathT
import Derived.Test.YtacelhaidcmbcaaGreatDoorChecked
import Derived.DeepKeys4
import Derived.KernelRfl
import Derived.Deep.OwnRows
set_option maxHeartbeats 8000000
set_option maxRecDepth 1000000
set_option linter.unusedVariables false
set_option linter.unusedSimpArgs false
namespace Go.Proofs.YtacelhaidcmbcaaGreatDoor.V.Px
open Go Go.Maps Go.WideElems Go.MapKept Go.RowKit
open Go.ChangeMaps (setBlock heap_setBlock_same heap_setBlock_other modify_eq_set)
section
variable {P:Program} {k:TypeId}
theorem z5U{α:Type}{l:List α}(h:l.Nodup){i j:Nat}{x:α}(hi:l[i]? =some x)(hj:l[j]? =some x):i=j:=by
 obtain⟨h1,e1⟩:=List.getElem?_eq_some_iff.1 hi;obtain⟨h2,e2⟩:=List.getElem?_eq_some_iff.1 hj;have hp:=List.pairwise_iff_getElem.1 h;rcases Nat.lt_trichotomy i j with c|c|c
 · exact absurd (e1.trans e2.symm) (hp i j h1 h2 c)
 · exact c
 · exact absurd (e2.trans e1.symm) (hp j i h2 h1 c)
theorem z22(K:Keyed P k){key:Value}{kl:Lit}(hkey:keyOf P k key=some kl){es:List MapEntry}(hn:(es.map (·.key)).Nodup)(hks:∀e∈es,∃l,keyOf P k e.key=some l):
 ((∀u:World,(Instr.findKey k key es).run P u=.ok none u)∧∀e∈es,e.key≠key)∨∃j e,(∀u:World,(Instr.findKey k key es).run P u=.ok (some (j,e.val)) u)∧es[j]? =some e∧e.key=key:=by
 by_cases c:∃e∈es,e.key=key
 · obtain⟨e,he,hk⟩:=c
   obtain⟨j,hj⟩:=List.mem_iff_getElem?.1 he;refine .inr ⟨j,e,fun u=> ?_,hj,hk⟩;rcases K.find u hkey es hks with⟨_,h2⟩|⟨j',e',h1,h2,h3⟩
   · exact absurd hk (h2 e he)
   · have q1:(es.map (·.key))[j]? =some key:=by rw[List.getElem?_map,hj];simp[hk]
     have q2:(es.map (·.key))[j']? =some key:=by rw[List.getElem?_map,h2];simp[h3]
     obtain rfl:=z5U hn q1 q2;rw[hj] at h2;cases h2
     exact h1
 · refine .inl ⟨fun u=> ?_,fun e he hk=>c ⟨e,he,hk⟩⟩
   rcases K.find u hkey es hks with⟨h1,_⟩|⟨j',e',_,h2,h3⟩
   · exact h1
   · exact absurd ⟨e',List.mem_of_getElem? h2,h3⟩ c
theorem zgI{t e:TypeId}(K:Keyed P k)(ht:P.underlying t=some (.map k e)){z:Value}(hz:∀u:World,(zeroValue e).run P u=.ok z u){b:Nat}{es:Array MapEntry}{clock:Nat}(hn:(es.toList.map (·.key)).Nodup)(hks:∀e∈es.toList,∃l,keyOf P k e.key=some l)
 {key:Value} {kl:Lit} (hkey:keyOf P k key=some kl):
 ∃ (r:Value) (o:Obj),∀x:World,x.heap[b]? =some (.map es clock)→(Instr.mapEntry t (.map (some b)) key).run P x=.ok r (setBlock x b o):=by
 rcases z22 K hkey hn hks with⟨h1,_⟩|⟨j,e0,h1,h2,h3⟩
 · exact⟨_,_,fun x hx=>by simp[Instr.mapEntry,run_underlying ht,MapKept.run_getObj_map hx,K.check x false hkey,h1,hz,MapKept.run_setObj_map _ hx,Result.andThen];exact⟨rfl,rfl⟩⟩
 · have hj:es[j]? =some e0:=by simpa using h2
   exact⟨_,_,fun x hx=>by simp[Instr.mapEntry,run_underlying ht,MapKept.run_getObj_map hx,K.check x false hkey,h1,hj,h3,K.stays x hkey,MapKept.run_setObj_map _ hx,Result.andThen];exact⟨rfl,rfl⟩⟩
theorem zfs{t e:TypeId}(K:Keyed P k)(ht:P.underlying t=some (.map k e)){b:Nat}{es:Array MapEntry}{clock:Nat}(hn:(es.toList.map (·.key)).Nodup)(hks:∀e∈es.toList,∃l,keyOf P k e.key=some l)
 {key:Value} {kl:Lit} (hkey:keyOf P k key=some kl) (val:Value):
 ∃o:Obj,∀x:World,x.heap[b]? =some (.map es clock)→(Instr.mapUpdate t (.map (some b)) key val).run P x=.ok () (setBlock x b o):=by
 rcases z22 K hkey hn hks with⟨h1,_⟩|⟨j,e0,h1,h2,h3⟩
 · exact⟨_,fun x hx=>by simp[Instr.mapUpdate,run_underlying ht,MapKept.run_getObj_map hx,K.check x false hkey,h1,MapKept.run_setObj_map _ hx,Result.andThen];rfl⟩
 · have hj:es[j]? =some e0:=by simpa using h2
   exact⟨_,fun x hx=>by simp[Instr.mapUpdate,run_underlying ht,MapKept.run_getObj_map hx,K.check x false hkey,h1,hj,h3,K.stays x hkey,MapKept.run_setObj_map _ hx,Result.andThen];rfl⟩
theorem z2t{w:World}{b:Nat}{o o':Obj}(hb:b<w.heap.size)(h:setBlock w b o=setBlock w b o'):o=o':=by
 have:=congrArg (fun x:World=>x.heap[b]?) h
 simpa [setBlock,hb] using this
end
section
variable {H:Type} {P:Program} {k:TypeId} {w:World} {base:Nat} {e:TypeId} {q:IntKind} {b n:Nat} {D:DataW H}
theorem z3G{w:World}{b:Nat}(o o':Obj):setBlock (setBlock w b o) b o'=setBlock w b o':=by
 simp[setBlock]
theorem z01(w:World)(b:Nat)(o:Obj):(setBlock w b o).heap.size=w.heap.size:=by simp[setBlock]
theorem z63{t E:TypeId}{key:Value}{kl:Lit}(h:w.ownsGroups P k base e q b n D)(KL:WideMaps.KeyLaw P k)(ht:P.underlying t=some (.map k E))(hz:∀u:World,(zeroValue E).run P u=.ok (.slice none 0 0) u)(hn:n<maxLen)(hkey:keyOf P k key=some kl):
 ∃ (v:Value) (zs:List Int) (st:Nat) (o:Obj),(∀u:World,u.heap[b]? =w.heap[b]? →(Instr.mapEntry t (.map (some b)) key).run P u=.ok (.tuple #[v,goInt st]) (setBlock u b o))∧D.atKey kl .nil=rowDatum q v zs∧w.ownsInts base e q v zs∧zs.length≤n∧b<w.heap.size∧
  ∀ (w2:World) (v':Value) (zs':List Int),(setBlock w b o).grownBy w2 v.ownBlock→w2.ownsInts base e q v' zs'→zs'.length≤n+1→(v'.ownBlock=v.ownBlock∨∃g,v'.ownBlock=some g∧w.heap.size≤g)→
   ∃w3,(Instr.entryStore t (.map (some b)) (goInt st) v').run P w2=.ok () w3∧w3.ownsGroups P k base e q b (n+1) (D.put kl (rowDatum q v' zs'))∧w2.grownBy w3 (some b):=by
 have K:=Keyed.of_law KL;obtain⟨v,zs,hlook,hat,hown,hzl,hback⟩:=h.at K ht (hz w) hn hkey;obtain⟨es,clock,hb,F,hs,rfl,hbb,hlen,hap⟩:=h;have hblt:b<w.heap.size:=(qW.1 hb).1
 have hks:∀x∈es.toList,∃l,keyOf P k x.key=some l:=fun x hx=>by
  obtain⟨y,hy⟩:=F.reads x hx;exact⟨_,rd_key hy⟩
 obtain⟨v0,st,es1,clock1,hent0,hval,hst⟩:=entry_then_store KL ht hz hb F hkey
 have hent:∀u:World,u.heap[b]? =some (.map es clock)→(Instr.mapEntry t (.map (some b)) key).run P u=.ok (.tuple #[v0,goInt st]) (setBlock u b (.map es1 clock1)):=by
  obtain⟨r,o,hall⟩:=zgI (clock:=clock) (b:=b) K ht hz F.stamped.2.2 hks hkey;have h1:=hall w hb;rw[hent0] at h1;injection h1 with e1 e2
  rw[z2t hblt e2,e1];exact hall
 -- the entry's value is what a look-up gives
 obtain rfl:v0=v:=by
  rcases z22 K hkey F.stamped.2.2 hks with⟨h1,h2⟩|⟨j,e0,h1,h2,h3⟩
  · have hr:(Instr.lookup t (.map (some b)) key false).run P w=.ok (.slice none 0 0) w:=by
     simp[Instr.lookup,run_underlying ht,MapKept.run_getObj_map hb,K.check w _ hkey,h1,hz,Result.andThen]
    rw[hr] at hlook;injection hlook with hv _
    rcases hval with⟨e0,q1,q2,_⟩|⟨_,q⟩
    · exact absurd q2 (h2 e0 q1)
    · rw[q,hv]
  · have hr:(Instr.lookup t (.map (some b)) key false).run P w=.ok e0.val w:=by
     simp[Instr.lookup,run_underlying ht,MapKept.run_getObj_map hb,K.check w _ hkey,h1,hz,Result.andThen]
    rw[hr] at hlook;injection hlook with hv _
    rcases hval with⟨e1,q1,q2,q3⟩|⟨q,_⟩
    · obtain⟨j',hj'⟩:=List.mem_iff_getElem?.1 q1
      have r1:(es.toList.map (·.key))[j]? =some key:=by rw[List.getElem?_map,h2];simp[h3]
      have r2:(es.toList.map (·.key))[j']? =some key:=by rw[List.getElem?_map,hj'];simp[q2]
      obtain rfl:=z5U F.stamped.2.2 r1 r2;rw[h2] at hj';cases hj'
      rw[q3,hv]
    · exact absurd h3 (q e0 (List.mem_of_getElem? h2))
 refine⟨v0,zs,st,.map es1 clock1,fun u hu=>hent u (hu.trans hb),hat,hown,hzl,hblt,fun w2 v' zs' hg hown' hl' hloc=> ?_⟩;have hb1:(setBlock w b (.map es1 clock1)).heap[b]? =some (.map es1 clock1):=heap_setBlock_same hb _;have hvb:v0.ownBlock≠some b:=fun e1=>by have:=(hown.1.lt b e1).1;omega
 have hv'b:v'.ownBlock≠some b:=fun e1=>by have:=(hown'.1.lt b e1).1;omega
 have hb2:w2.heap[b]? =some (.map es1 clock1):=(hg.block b (by rw[z01];exact hblt) (fun e1=>hvb e1.symm)).trans hb1;obtain⟨es',clock',hstore,hupd0⟩:=hst w2 v' hb2
 have hupd:∀u:World,u.heap[b]? =some (.map es clock)→(Instr.mapUpdate t (.map (some b)) key v').run P u=.ok () (setBlock u b (.map es' clock')):=by
  obtain⟨o,hall⟩:=zfs (clock:=clock) (b:=b) K ht F.stamped.2.2 hks hkey v';have h1:=hall w hb;rw[hupd0] at h1;injection h1 with _ e2
  rw[z2t hblt e2];exact hall
 -- the world as if the entry had not been made
 have hgu:w.grownBy (setBlock w2 b (.map es clock)) v0.ownBlock:=by
  refine⟨hg.os,hg.tape,hg.output,?_,fun i hi hne=> ?_⟩
  · rw[z01];have:=hg.size;rw[z01] at this;exact this
  · by_cases c:i=b
    · subst c
      rw[heap_setBlock_same hb2,hb]
    · rw[heap_setBlock_other hb2 _ c,hg.block i (by rw[z01];exact hi) hne,heap_setBlock_other hb _ c]
 have hgb:w2.grownBy (setBlock w2 b (.map es clock)) (some b):=⟨rfl,rfl,rfl,by rw[z01];exact qR,fun i hi hne=>heap_setBlock_other hb2 _ (fun e1=>hne (by rw[e1]))⟩;have hou:(setBlock w2 b (.map es clock)).ownsInts base e q v' zs':=hown'.kept hgb (.inr hv'b);obtain⟨w3,hrun,hgr,hgrown⟩:=hback _ v' zs' hgu hou hl' hloc;have hrun':=hupd (setBlock w2 b (.map es clock)) (heap_setBlock_same hb2 _);rw[hrun',z3G] at hrun;injection hrun with _ hw3
 refine⟨w3,?_,hgr,?_⟩
 · rw[hstore,hw3]
 · rw[←hw3]
   exact⟨rfl,rfl,rfl,by rw[z01];exact qR,fun i hi hne=>heap_setBlock_other hb2 _ (fun e1=>hne (by rw[e1]))⟩
theorem z6Y{t E:TypeId}{key:Value}{kl:Lit}(h:w.ownsGroups P k base e q b n D)(K:Keyed P k)(ht:P.underlying t=some (.map k E))(hz:∀u:World,(zeroValue E).run P u=.ok (.slice none 0 0) u)(hn:n<maxLen)(hkey:keyOf P k key=some kl):
 ∃ (v:Value) (zs:List Int),(∀u:World,u.heap[b]? =w.heap[b]? →(Instr.lookup t (.map (some b)) key false).run P u=.ok v u)∧D.atKey kl .nil=rowDatum q v zs∧w.ownsInts base e q v zs∧zs.length≤n:=by
 obtain⟨v,zs,hlook,hat,hown,hzl,hback⟩:=h.at K ht (hz w) hn hkey;obtain⟨es,clock,hb,F,hs,rfl,hbb,hlen,hap⟩:=h;refine⟨v,zs,fun u hu=> ?_,hat,hown,hzl⟩;have hbu:=hu.trans hb
 rcases z22 K hkey F.stamped.2.2 (fun x hx=>by
  obtain⟨y,hy⟩:=F.reads x hx;exact⟨_,rd_key hy⟩) with⟨h1,h2⟩|⟨j,e0,h1,h2,h3⟩
 · have hr:∀u:World,u.heap[b]? =some (.map es clock)→(Instr.lookup t (.map (some b)) key false).run P u=.ok (.slice none 0 0) u:=fun u hb=>by
    simp[Instr.lookup,run_underlying ht,MapKept.run_getObj_map hb,K.check u _ hkey,h1,hz,Result.andThen]
   rw[hr w hb] at hlook;injection hlook with hv _
   rw[hr u hbu,hv]
 · have hr:∀u:World,u.heap[b]? =some (.map es clock)→(Instr.lookup t (.map (some b)) key false).run P u=.ok e0.val u:=fun u hb=>by
    simp[Instr.lookup,run_underlying ht,MapKept.run_getObj_map hb,K.check u _ hkey,h1,hz,Result.andThen]
   rw[hr w hb] at hlook;injection hlook with hv _
   rw[hr u hbu,hv]
end
end Go.Proofs.YtacelhaidcmbcaaGreatDoor.V.Px
namespace Go.Proofs.YtacelhaidcmbcaaGreatDoor.V.Px
open Go Go.RowKit M
open Go.ChangeShapes (lits)
theorem zgA:laidOutB Tryz.prog=true:=by kernel_rfl
theorem zfX:(match Tryz.prog.underlying 207 with|some (.array _ _)|some (.struct _)=>true|_=>false)=true:=by kernel_rfl
theorem zac:WideMaps.KeyLaw Tryz.prog 207 :=deep_law_laid zgA (m:=2) (by omega) (of_decide_eq_true (by kernel_rfl)) (by kernel_rfl) zfX
theorem zeG:Maps.Keyed Tryz.prog 207 :=Maps.Keyed.of_law zac
def z6n(a b c:Nat):Value:=.agg #[.int .u8 a,.int .u8 b,.int .u8 c]
def rk(a b c:Nat):Lit:=.string (keyBytes [.int .u8 a,.int .u8 b,.int .u8 c])
theorem ziU: Tryz.prog.keyType 207 =true:=by kernel_rfl
theorem z7B: Tryz.prog.cellsOf 207 =3:=by kernel_rfl
theorem zfy: Tryz.prog.cellsOf 5 =1:=by kernel_rfl
theorem zhr:∃d,Tryz.prog.types.size=d+1:=⟨Tryz.prog.types.size - 1,by have:(0:Nat)< Tryz.prog.types.size:=of_decide_eq_true (by kernel_rfl);omega⟩
theorem ziK{a:Nat}(h:a≤255):(Lit.int .u8 (a:Int)).wf=true:=by simp[Lit.wf,IntKind.min,IntKind.max,IntKind.signed,IntKind.bits];omega
theorem z6N(a b c:Nat)(ha:a≤255)(hb:b≤255)(hc:c≤255): Tryz.prog.keyLits (Tryz.prog.types.size+1) 207 [.int .u8 a,.int .u8 b,.int .u8 c]=some [.int .u8 a,.int .u8 b,.int .u8 c]:=by
 obtain⟨d,hd⟩:=zhr
 have e1:∀x:Nat,x≤255→ Tryz.prog.keyLits (d+1) 5 [.int .u8 (x:Int)]=some [.int .u8 (x:Int)]:=fun x hx=>by
  rw[Program.keyLits.eq_def];simp only[Tryz.underlying5];simp[ziK hx]
 rw[hd,Program.keyLits.eq_def];simp only[Tryz.underlying207];rw[if_pos (by rw[z7B];rfl)];have e2:(List.range 3)=[0,1,2]:=rfl;rw[e2];simp[zfy,e1 a ha,e1 b hb,e1 c hc]
theorem z4H{a b c:Nat}(ha:a≤255)(hb:b≤255)(hc:c≤255):keyOf Tryz.prog 207 (z6n a b c)=some (rk a b c):=by
 have hf:(z6n a b c).formed Tryz.prog 207 =true:=by simp[z6n,Value.formed,Tryz.underlying207,z7B]
 have hk:=z6N a b c ha hb hc;unfold keyOf;simp only[Tryz.underlying207];rw[if_pos (by rw[ziU,hf];rfl)];show(Tryz.prog.keyLits (Tryz.prog.types.size+1) 207 [.int .u8 a,.int .u8 b,.int .u8 c]).map _=_
 rw[hk];rfl
theorem zd8{a b c a' b' c':Nat}(h:z6n a b c=z6n a' b' c'):a=a'∧b=b'∧c=c':=by
 unfold z6n at h;injection h with h
 simp at h;omega
theorem zhF{a b c a' b' c':Nat}(ha:a≤255)(hb:b≤255)(hc:c≤255)(ha':a'≤255)(hb':b'≤255)(hc':c'≤255)(h:rk a b c=rk a' b' c'):a=a'∧b=b'∧c=c':=
 zd8 (zeG.inj (z4H ha hb hc) (by rw[h];exact z4H ha' hb' hc'))
theorem zhE(a b c:Nat):WideAt.IsKeyLit (rk a b c):=trivial
def zdT(l:List Nat):List Int:=l.map fun x:Nat=>(x:Int)
theorem z6S(l:List Nat):(zdT l).length=l.length:=by simp[zdT]
theorem zbs(l:List Nat)(x:Nat):zdT (l++[x])=zdT l++[(x:Int)]:=by simp[zdT]
theorem zdI{q:IntKind}{l l':List Int}(h:(lits q l:List (DataW Value))=lits q l'):l=l':=by
 unfold lits at h;exact(List.map_inj_right (fun a b hab=>by injection hab with e;injection e)).1 h
structure Dic(D:DataW Value)(G:Nat→Nat→Nat→List Nat):Prop where
 isMap:Maps.IsMap D
 yes:∀a b c,a≤255→b≤255→c≤255→D.atKey (rk a b c) .nil=if G a b c=[] then .nil else .slice (lits .i64 (zdT (G a b c))) []
section
variable {D:DataW Value} {G G':Nat→Nat→Nat→List Nat}
theorem Dic.empty:Dic (.map []) (fun _ _ _=> []):=⟨Maps.isMap_empty,fun a b c _ _ _=>by
 rw[if_pos rfl];rw[Maps.atKey_of_not_has (show Maps.has (.map []) (rk a b c)=false by simp[Maps.has])]⟩
theorem Dic.congr(h:Dic D G)(e:∀a b c,a≤255→b≤255→c≤255→G a b c=G' a b c):Dic D G':=⟨h.isMap,fun a b c ha hb hc=>by rw[←e a b c ha hb hc];exact h.yes a b c ha hb hc⟩
theorem Dic.put(h:Dic D G){a b c:Nat}(ha:a≤255)(hb:b≤255)(hc:c≤255)(l:List Nat)(hl:l≠[]):Dic (D.put (rk a b c) (.slice (lits .i64 (zdT l)) [])) (fun a' b' c'=>if a'=a∧b'=b∧c'=c then l else G a' b' c'):=by
 refine⟨h.isMap.put _ _,fun a' b' c' ha' hb' hc'=> ?_⟩;by_cases q:a'=a∧b'=b∧c'=c
 · rw[if_pos q,if_neg hl]
   obtain⟨rfl,rfl,rfl⟩:=q;exact Maps.atKey_put_same h.isMap (zhE _ _ _) _ _
 · rw[if_neg q,Maps.atKey_put_other (fun k=>q (zhF ha' hb' hc' ha hb hc k))]
   exact h.yes a' b' c' ha' hb' hc'
theorem Dic.owned(h:Dic D G){a b c:Nat}(ha:a≤255)(hb:b≤255)(hc:c≤255){w:World}{base:Nat}{e:TypeId}{v:Value}{zs:List Int}(hat:D.atKey (rk a b c) .nil=rowDatum .i64 v zs)(ho:w.ownsInts base e .i64 v zs):zs=zdT (G a b c):=by
 rw[h.yes a b c ha hb hc] at hat;by_cases q:G a b c=[]
 · rw[if_pos q] at hat
   rcases ho.datum (H:=Value) with⟨_,h2⟩|h2
   · rw[h2,q];rfl
   · rw[h2] at hat;cases hat
 · rw[if_neg q] at hat
   rcases ho.datum (H:=Value) with⟨h1,_⟩|h2
   · rw[h1] at hat;cases hat
   · rw[h2] at hat
     injection hat with hat
     exact(zdI hat).symm
end
def lst(L:List Nat):Int:=match L.getLast? with|some x=>(x:Int)|none=> -1
theorem zgu:lst []= -1:=rfl
structure Fd(w:World)(B F:Nat)(s:ByteArray)(L:List Nat)(la:Int):Prop where
 c0:w.cell? ⟨F,0,none⟩=some (.string s)
 c1:w.cell? ⟨F,1,none⟩=some (.int .i64 la)
 fz:w.frozen? ⟨F,1,none⟩=false
 own:∃b base D,w.cell? ⟨F,2,none⟩=some (.map (some b))∧w.ownsGroups Tryz.prog 207 base 3 .i64 b L.length D∧Dic D (grp s L)∧F<base∧base≤w.heap.size∧F≠b∧B≤b
 base:B≤F
 rise:L.Pairwise (· < ·)
 most:∀p,p∈L→p<s.size
 len:s.size≤1048576
section
variable {w w':World} {B F:Nat} {s:ByteArray} {L:List Nat} {la:Int}
theorem z7h(h:Below w.heap.size w w'):w.grownBy w' none:=⟨h.os,h.tape,h.output,h.size,fun k hk _=>h.block k hk⟩
theorem Fd.lt(h:Fd w B F s L la):F<w.heap.size:=qB h.c0
theorem Fd.below(h:Fd w B F s L la)(hb:Below w.heap.size w w'):Fd w' B F s L la:=by
 obtain⟨b,base,D,h1,h2,h3,h4,h5,h6⟩:=h.own;have hc:=fun o=>hb.cell (p:=⟨F,o,none⟩) h.lt
 refine⟨(hc 0).trans h.c0,(hc 1).trans h.c1,(hb.frozen (p:=⟨F,1,none⟩) h.lt).trans h.fz,⟨b,base,D,(hc 2).trans h1,?_,h3,h4,qK h5 hb.size,h6⟩,h.base,h.rise,h.most,h.len⟩
 exact h2.kept (z7h hb) (by simp) (fun es clock _ x _=>by
  cases x.val.ownBlock<;>simp)
theorem Fd.count(h:Fd w B F s L la):L.length≤s.size:=by
 -- rising places below a bound are no more than it
 have:∀ (l:List Nat) (n:Nat),l.Pairwise (· < ·)→(∀p,p∈l→p<n)→l.length≤n:=by
  intro l
  induction l with
  |nil=>intro n _ _;exact qZ
  |cons x r ih=>
   intro n hp hm;obtain⟨h1,h2⟩:=List.pairwise_cons.1 hp;have:=ih n h2 (fun p q=>hm p (by simp[q]))
   have h3:∀ (l:List Nat) (a n:Nat),l.Pairwise (· < ·)→(∀p,p∈l→a<p∧p<n)→l.length+a<n∨l=[]:=by
    intro l
    induction l with
    |nil=>intro a n _ _;exact .inr rfl
    |cons y t ih2=>
     intro a n hp hm;obtain⟨g1,g2⟩:=List.pairwise_cons.1 hp;have g3:=hm y (by simp);rcases ih2 y n g2 (fun p q=>⟨g1 p q,(hm p (by simp[q])).2⟩) with g|g
     · refine .inl ?_;simp only[qC];omega
     · subst g;refine .inl ?_;simp only[qC,List.length_nil];omega
   have hx:=hm x (by simp);rcases h3 r x n h2 (fun p q=>⟨h1 p q,hm p (by simp[q])⟩) with g|g
   · simp only[qC];omega
   · subst g;simp only[qC,List.length_nil];omega
 exact this L _ h.rise h.most
end
end Go.Proofs.YtacelhaidcmbcaaGreatDoor.V.Px
