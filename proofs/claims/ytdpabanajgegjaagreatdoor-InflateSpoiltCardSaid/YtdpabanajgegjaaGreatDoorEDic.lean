import Derived.Test.YtdpabanajgegjaaGreatDoorEHfA
import Derived.Maps.RangeWalk
import Derived.DeepKeys4
namespace Go.Proofs.YtdpabanajgegjaaGreatDoor.H
open Go Go.RowKit M C
set_option linter.unusedVariables false
theorem laidAll:laidOutB Tryz.prog=true:=by kernel_rfl
theorem rowWide:(match Tryz.prog.underlying 323 with|some (.array _ _)|some (.struct _)=>true|_=>false)=true:=by kernel_rfl
set_option maxRecDepth 1000000 in
theorem rowLaw:Maps.Keyed Tryz.prog 323 :=
 Maps.Keyed.of_law (deep_law_laid laidAll (m:=2) (by omega) (of_decide_eq_true (by kernel_rfl)) (by kernel_rfl) rowWide)
def rkey(b s:Nat):Value:=.agg #[.int .u64 b,.int .i64 s]
def rk(b s:Nat):Lit:=.string (keyBytes [.int .u64 b,.int .i64 s])
theorem rowTy: Tryz.prog.keyType 323 =true:=by kernel_rfl
theorem rowCells: Tryz.prog.cellsOf 323 =2:=by kernel_rfl
theorem u64Cells: Tryz.prog.cellsOf 155 =1:=by kernel_rfl
theorem intCells: Tryz.prog.cellsOf 3 =1:=by kernel_rfl
theorem tySize:∃d,Tryz.prog.types.size=d+1:=⟨Tryz.prog.types.size - 1,by have:(0:Nat)< Tryz.prog.types.size:=of_decide_eq_true (by kernel_rfl);omega⟩
theorem keyLits_row(x y:Value)(L:List Lit): Tryz.prog.keyLits (Tryz.prog.types.size+1) 323 [x,y]=some L↔∃b s:Int,x=.int .u64 b∧y=.int .i64 s∧(Lit.int .u64 b).wf=true∧(Lit.int .i64 s).wf=true∧L=[.int .u64 b,.int .i64 s]:=by
 obtain⟨d,hd⟩:=tySize
 have e1:∀x:Value,Tryz.prog.keyLits (d+1) 155 [x]=(match x with|.int q n=>if q=.u64∧(Lit.int .u64 n).wf=true then some [.int .u64 n] else none|_=>none):=fun x=>by
  cases x<;>simp[Program.keyLits,Tryz.underlying155]
 have e2:∀x:Value,Tryz.prog.keyLits (d+1) 3 [x]=(match x with|.int q n=>if q=.i64∧(Lit.int .i64 n).wf=true then some [.int .i64 n] else none|_=>none):=fun x=>by
  cases x<;>simp[Program.keyLits,Tryz.underlying3]
 rw[hd]
 have e3: Tryz.prog.keyLits (d+1+1) 323 [x,y]=(do let a ← Tryz.prog.keyLits (d+1) 155 [x];let b ← Tryz.prog.keyLits (d+1) 3 [y];some (a++b)):=by
  rw[Program.keyLits.eq_def];simp only[Tryz.underlying323];simp[rowCells,u64Cells,intCells];cases Tryz.prog.keyLits (d+1) 155 [x]<;>simp
  cases Tryz.prog.keyLits (d+1) 3 [y]<;>simp
 rw[e3,e1,e2];constructor
 · intro h
   obtain⟨a,ha,h⟩:=Option.bind_eq_some_iff.1 h;obtain⟨c,hc,h⟩:=Option.bind_eq_some_iff.1 h;cases x<;>simp at ha
   cases y<;>simp at hc
   obtain⟨⟨rfl,h1⟩,rfl⟩:=ha;obtain⟨⟨rfl,h2⟩,rfl⟩:=hc;simp at h;exact⟨_,_,rfl,rfl,h1,h2,h.symm⟩
 · rintro⟨b,s,rfl,rfl,h1,h2,rfl⟩
   simp[h1,h2]
set_option maxRecDepth 1000000 in
theorem rk_some{b s:Nat}(hb:b≤18446744073709551615)(hs:s≤9223372036854775807):keyOf Tryz.prog 323 (rkey b s)=some (rk b s):=by
 have h1:(Lit.int .u64 (b:Int)).wf=true:=by simp[Lit.wf,IntKind.min,IntKind.max,IntKind.signed,IntKind.bits];omega
 have h2:(Lit.int .i64 (s:Int)).wf=true:=by simp[Lit.wf,IntKind.min,IntKind.max,IntKind.signed,IntKind.bits];omega
 have hf:(rkey b s).formed Tryz.prog 323 =true:=by simp[rkey,Value.formed,Tryz.underlying323,rowCells]
 have hk:=(keyLits_row (.int .u64 b) (.int .i64 s) _).2 ⟨b,s,rfl,rfl,h1,h2,rfl⟩;unfold keyOf;simp only[Tryz.underlying323];rw[if_pos (by rw[rowTy,hf];rfl)];show(Tryz.prog.keyLits (Tryz.prog.types.size+1) 323 [.int .u64 b,.int .i64 s]).map _=_
 rw[hk];rfl
set_option maxRecDepth 1000000 in
theorem rk_inv{key:Value}{kl:Lit}(h:keyOf Tryz.prog 323 key=some kl):∃x:Int×Int,key=.agg #[.int .u64 x.1,.int .i64 x.2]:=by
 obtain⟨xs,L,rfl,h1,rfl⟩:=keyOf_top rowWide h
 have h2:xs.toList.length=2:=by
  have hf:(Value.agg xs).formed Tryz.prog 323 =true:=by
   unfold keyOf at h;simp only[Tryz.underlying323] at h;by_cases q:(Tryz.prog.keyType 323 && (Value.agg xs).formed Tryz.prog 323)=true
   · exact(Bool.and_eq_true_iff.1 q).2
   · rw[if_neg q] at h;cases h
  simp[Value.formed,Tryz.underlying323,rowCells] at hf
  simpa using hf
 obtain⟨l⟩:=xs
 match l,h2 with
 |[c0,c1],_=>
  obtain⟨b,s,rfl,rfl,_⟩:=(keyLits_row c0 c1 L).1 h1;exact⟨(b,s),rfl⟩
theorem rkey_inj{b s b' s':Nat}(h:rkey b s=rkey b' s'):b=b'∧s=s':=by
 unfold rkey at h;injection h with h
 simp at h;omega
theorem rk_inj{b s b' s':Nat}(hb:b≤18446744073709551615)(hs:s≤9223372036854775807)(hb':b'≤18446744073709551615)(hs':s'≤9223372036854775807)(h:rk b s=rk b' s'):b=b'∧s=s':=
 rkey_inj (rowLaw.inj (rk_some hb hs) (by rw[h];exact rk_some hb' hs'))
theorem rk_key(b s:Nat):WideAt.IsKeyLit (rk b s):=trivial
structure Dic{α:Type}(D:DataW Value)(dat:α→DataW Value)(f:Nat→Nat→Option α):Prop where
 isMap:Maps.IsMap D
 dom:∀b s v,f b s=some v→b≤18446744073709551615∧s≤9223372036854775807
 yes:∀b s v,f b s=some v→∀z,D.atKey (rk b s) z=dat v
 only:∀kl,Maps.has D kl=true→∃b s v,f b s=some v∧kl=rk b s
section
variable {α:Type} {D:DataW Value} {dat:α→DataW Value} {f g:Nat→Nat→Option α}
theorem Dic.empty(dat:α→DataW Value):Dic (.map []) dat (fun _ _=>none):=⟨Maps.isMap_empty,fun _ _ _ h=>by simp at h,fun _ _ _ h=>by simp at h,fun _ h=>by simp[Maps.has] at h⟩
theorem Dic.congr(h:Dic D dat f)(e:∀b s,f b s=g b s):Dic D dat g:=by
 have:f=g:=funext fun b=>funext fun s=>e b s
 rwa [←this]
theorem Dic.has(h:Dic D dat f){b s:Nat}{v:α}(e:f b s=some v):Maps.has D (rk b s)=true:=Maps.has_true_of_atKey (h.yes b s v e)
theorem Dic.hasNot(h:Dic D dat f){b s:Nat}(hb:b≤18446744073709551615)(hs:s≤9223372036854775807)(e:f b s=none):Maps.has D (rk b s)=false:=by
 cases q:Maps.has D (rk b s)
 · rfl
 · obtain⟨b',s',v,h1,h2⟩:=h.only _ q
   obtain⟨d1,d2⟩:=h.dom _ _ _ h1;obtain⟨rfl,rfl⟩:=rk_inj hb hs d1 d2 h2;rw[h1] at e;cases e
theorem Dic.put(h:Dic D dat f){b s:Nat}(hb:b≤18446744073709551615)(hs:s≤9223372036854775807)(v:α):Dic (D.put (rk b s) (dat v)) dat (fun b' s'=>if b'=b∧s'=s then some v else f b' s'):=by
 refine⟨h.isMap.put _ _,fun b' s' v' e=> ?_,fun b' s' v' e z=> ?_,fun kl e=> ?_⟩
 · by_cases q:b'=b∧s'=s
   · obtain⟨rfl,rfl⟩:=q;exact⟨hb,hs⟩
   · rw[if_neg q] at e;exact h.dom _ _ _ e
 · by_cases q:b'=b∧s'=s
   · rw[if_pos q] at e
     obtain⟨rfl,rfl⟩:=q;injection e with e
     subst e;exact Maps.atKey_put_same h.isMap (rk_key _ _) _ _
   · rw[if_neg q] at e
     obtain⟨d1,d2⟩:=h.dom _ _ _ e;rw[Maps.atKey_put_other (fun k=>q (rk_inj d1 d2 hb hs k))];exact h.yes _ _ _ e z
 · by_cases q:kl=rk b s
   · exact⟨b,s,v,if_pos ⟨rfl,rfl⟩,q⟩
   · rw[Maps.has_put_other q] at e
     obtain⟨b',s',v',e1,e2⟩:=h.only _ e;refine⟨b',s',v',?_,e2⟩;rw[if_neg (fun k=>q (by rw[e2,k.1,k.2]))];exact e1
end
def datI(x:Nat):DataW Value:=.lit (.int .i64 x)
def slv(x:Nat×Nat):Value:=.slice (some ⟨x.1,0,none⟩) x.2 x.2
def datS(x:Nat×Nat):DataW Value:=.held (slv x)
def redS(v:Value):Option (DataW Value×List MemPlace):=
 match v with
 |.slice _ _ _=>some (.held v,[])
 |_=>none
theorem redS_inv{v:Value}{y:DataW Value×List MemPlace}(h:redS v=some y):y=(.held v,[])∧∃c:Option Addr×Nat×Nat,v=.slice c.1 c.2.1 c.2.2:=by
 cases v<;>simp[redS] at h
 exact⟨h.symm,(_,_,_),rfl⟩
def slo:Option (Nat×Nat)→Value
 |some x=>slv x
 |none=> .slice none 0 0
theorem zeroI(w:World):(zeroValue 3).run Tryz.prog w=.ok (.int .i64 0) w:=by kernel_rfl
theorem zeroS(w:World):(zeroValue 324).run Tryz.prog w=.ok (.slice none 0 0) w:=by kernel_rfl
theorem lookI{w:World}{m n:Nat}{D:DataW Value}{f:Nat→Nat→Option Nat}(h:w.ownsMap Tryz.prog 323 (plainElem Tryz.prog 3) m n D)(hd:Dic D datI f){b s:Nat}(hb:b≤18446744073709551615)(hs:s≤9223372036854775807):
 (Instr.lookup 320 (.map (some m)) (rkey b s) false).run Tryz.prog w=.ok (.int .i64 (((f b s).getD 0:Nat):Int)) w:=by
 obtain⟨c,hrun,hat,_⟩:=h.lookup_int rowLaw Tryz.underlying320 Tryz.underlying3 (zeroI w) (rk_some hb hs);rw[hrun];cases e:f b s with
 |none=>
  rw[Maps.atKey_of_not_has (hd.hasNot hb hs e)] at hat;simp at hat;rw[←hat];rfl
 |some v=>
  rw[hd.yes b s v e] at hat;simp[datI] at hat;rw[←hat];rfl
theorem lookS{w:World}{m n:Nat}{D:DataW Value}{f:Nat→Nat→Option (Nat×Nat)}(h:w.ownsMap Tryz.prog 323 redS m n D)(hd:Dic D datS f){b s:Nat}(hb:b≤18446744073709551615)(hs:s≤9223372036854775807):
 (Instr.lookup 317 (.map (some m)) (rkey b s) false).run Tryz.prog w=.ok (slo (f b s)) w:=by
 obtain⟨v,ps,hrun,hv⟩:=h.lookup rowLaw Tryz.underlying317 (zeroS w) (zd:=.held (.slice none 0 0)) (zp:=[]) rfl (rk_some hb hs);rw[hrun];have hv2:=(redS_inv hv).1;cases e:f b s with
 |none=>
  rw[Maps.atKey_of_not_has (hd.hasNot hb hs e)] at hv2;simp at hv2;rw[←hv2.1];rfl
 |some x=>
  rw[hd.yes b s x e] at hv2;simp[datS] at hv2;rw[←hv2.1];rfl
theorem storeI{w:World}{m n:Nat}{D:DataW Value}{f:Nat→Nat→Option Nat}(h:w.ownsMap Tryz.prog 323 (plainElem Tryz.prog 3) m n D)(hd:Dic D datI f){b s:Nat}(hb:b≤18446744073709551615)(hs:s≤9223372036854775807)(hn:n<maxLen)(x:Nat)(hx:x≤9223372036854775807):
 ∃w' D',(Instr.mapUpdate 320 (.map (some m)) (rkey b s) (.int .i64 x)).run Tryz.prog w=.ok () w'∧w'.ownsMap Tryz.prog 323 (plainElem Tryz.prog 3) m (n+1) D'∧Dic D' datI (fun b' s'=>if b'=b∧s'=s then some x else f b' s')∧w.grownBy w' (some m):=by
 have hw:(Lit.int .i64 (x:Int)).wf=true:=by simp[Lit.wf,IntKind.min,IntKind.max,IntKind.signed,IntKind.bits];omega
 obtain⟨w',hrun,h1,h2⟩:=h.update rowLaw Tryz.underlying320 hn (rk_some hb hs) (plainElem_int Tryz.underlying3 hw);exact⟨w',_,hrun,h1,hd.put hb hs x,h2⟩
theorem storeS{w:World}{m n:Nat}{D:DataW Value}{f:Nat→Nat→Option (Nat×Nat)}(h:w.ownsMap Tryz.prog 323 redS m n D)(hd:Dic D datS f){b s:Nat}(hb:b≤18446744073709551615)(hs:s≤9223372036854775807)(hn:n<maxLen)(x:Nat×Nat):
 ∃w' D',(Instr.mapUpdate 317 (.map (some m)) (rkey b s) (slv x)).run Tryz.prog w=.ok () w'∧w'.ownsMap Tryz.prog 323 redS m (n+1) D'∧Dic D' datS (fun b' s'=>if b'=b∧s'=s then some x else f b' s')∧w.grownBy w' (some m):=by
 obtain⟨w',hrun,h1,h2⟩:=h.update rowLaw Tryz.underlying317 hn (rk_some hb hs) (R:=redS) (val:=slv x) (d:=datS x) (ps:=[]) rfl;exact⟨w',_,hrun,h1,hd.put hb hs x,h2⟩
theorem ownsMap_below{H:Type}{P:Program}{k:TypeId}{R:Value→Option (DataW H×List MemPlace)}{w w':World}{b n:Nat}{D:DataW H}(h:w.ownsMap P k R b n D){B:Nat}(hb:Below B w w')(hB:b<B):w'.ownsMap P k R b n D:=by
 obtain⟨es,clock,h1,r⟩:=h;exact⟨es,clock,(hb.block b hB).trans h1,r⟩
theorem wp_mapStore{P:Program}{o:Oper}{a:Act}{w w':World}{K:Act→World→Prop}{Q:Exit→Act→World→Prop}(d:Option Tmp)(hd:o.dst=d)(t:TypeId)(m x v:Operand)(ho:o.op=Op.mapUpdate t m x v)(mv key val:Value)(hm:a.eval m=mv)(hx:a.eval x=key)(hv:a.eval v=val)
 (hrun:(Instr.mapUpdate t mv key val).run P w=.ok () w') (h:K (a.put d undef) w'):Oper.wp P o a w K Q:=by
 subst hd;unfold Oper.wp;simp[execOp,ho,hm,hx,hv,hrun,Result.andThen];exact h
theorem wp_makeSlice{P:Program}{o:Oper}{a:Act}{w w':World}{K:Act→World→Prop}{Q:Exit→Act→World→Prop}(d:Option Tmp)(hd:o.dst=d)(t:TypeId)(x y:Operand)(ho:o.op=Op.makeSlice t x y)(xv yv r:Value)(hx:a.eval x=xv)(hy:a.eval y=yv)
 (hrun:(Instr.makeSlice t xv yv).run P w=.ok r w') (h:K (a.put d r) w'):Oper.wp P o a w K Q:=by
 subst hd;unfold Oper.wp;simp[execOp,ho,hx,hy,hrun,Result.andThen];exact h
end Go.Proofs.YtdpabanajgegjaaGreatDoor.H
