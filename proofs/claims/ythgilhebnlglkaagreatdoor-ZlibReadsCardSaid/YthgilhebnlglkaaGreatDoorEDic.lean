import Derived.Test.YthgilhebnlglkaaGreatDoorEHfA
import Derived.DeepKeys4
set_option linter.all false
set_option maxHeartbeats 8000000
set_option maxRecDepth 1000000
open Go.Proofs.Tryz
namespace Go.Proofs.YthgilhebnlglkaaGreatDoor.H
open Go Go.RowKit M C
theorem zhi:laidOutB prog=true:=by kernel_rfl
theorem zan:(match prog.underlying 406 with|some (.array _ _)|some (.struct _)=>true|_=>false)=true:=by kernel_rfl
theorem z2l:Maps.Keyed prog 406 :=
 Maps.Keyed.of_law (deep_law_laid zhi (m:=2) (by omega) (of_decide_eq_true (by kernel_rfl)) (by kernel_rfl) zan)
def z7m(b s:Nat):Value:=.agg #[.int .u64 b,.int .i64 s]
def rk(b s:Nat):Lit:=.string (keyBytes [.int .u64 b,.int .i64 s])
theorem zjY: prog.keyType 406 =true:=by kernel_rfl
theorem z4p: prog.cellsOf 406 =2:=by kernel_rfl
theorem zcL: prog.cellsOf 36 =1:=by kernel_rfl
theorem ze7: prog.cellsOf 3 =1:=by kernel_rfl
theorem zib:∃d,prog.types.size=d+1:=⟨prog.types.size - 1,by have:(0:Nat)< prog.types.size:=of_decide_eq_true (by kernel_rfl);omega⟩
theorem z37(x y:Value)(L:List Lit): prog.keyLits (prog.types.size+1) 406 [x,y]=some L↔∃b s:Int,x=.int .u64 b/\y=.int .i64 s/\(Lit.int .u64 b).wf=true/\(Lit.int .i64 s).wf=true/\L=[.int .u64 b,.int .i64 s]:=by
 obtain⟨d,hd⟩:=zib;have e1:∀x:Value,prog.keyLits (d+1) 36 [x]=(match x with|.int q n=>if q=.u64/\(Lit.int .u64 n).wf=true then some [.int .u64 n] else none|_=>none):=λx=>by
  cases x<;>simp[Program.keyLits,underlying36]
 have e2:∀x:Value,prog.keyLits (d+1) 3 [x]=(match x with|.int q n=>if q=.i64/\(Lit.int .i64 n).wf=true then some [.int .i64 n] else none|_=>none):=λx=>by
  cases x<;>simp[Program.keyLits,underlying3]
 rw[hd];have e3: prog.keyLits (d+1+1) 406 [x,y]=(do let a <- prog.keyLits (d+1) 36 [x];let b <- prog.keyLits (d+1) 3 [y];some (a++b)):=by
  rw[Program.keyLits.eq_def];simp only[underlying406];simp[z4p,zcL,ze7];cases prog.keyLits (d+1) 36 [x]<;>simp
  cases prog.keyLits (d+1) 3 [y]<;>simp
 rw[e3,e1,e2];constructor
 · intro h
   obtain⟨a,ha,h⟩:=Option.bind_eq_some_iff.1 h;obtain⟨c,hc,h⟩:=Option.bind_eq_some_iff.1 h;cases x<;>simp at ha
   cases y<;>simp at hc
   obtain⟨⟨rfl,h1⟩,rfl⟩:=ha;obtain⟨⟨rfl,h2⟩,rfl⟩:=hc;simp at h;exact⟨_,_,rfl,rfl,h1,h2,h.symm⟩
 · rintro⟨b,s,rfl,rfl,h1,h2,rfl⟩
   simp[h1,h2]
theorem z1C{b s:Nat}(hb:b<=18446744073709551615)(hs:s<=9223372036854775807):keyOf prog 406 (z7m b s)=some (rk b s):=by
 have h1:(Lit.int .u64 (b:Int)).wf=true:=(by simp[Lit.wf,IntKind.min,IntKind.max,IntKind.signed,IntKind.bits];omega);have h2:(Lit.int .i64 (s:Int)).wf=true:=(by simp[Lit.wf,IntKind.min,IntKind.max,IntKind.signed,IntKind.bits];omega);have hf:(z7m b s).formed prog 406 =true:=(by simp[z7m,Value.formed,underlying406,z4p]);have hk:=(z37 (.int .u64 b) (.int .i64 s) _).2 ⟨b,s,rfl,rfl,h1,h2,rfl⟩;unfold keyOf;simp only[underlying406];rw[if_pos (by rw[zjY,hf];rfl)];show(prog.keyLits (prog.types.size+1) 406 [.int .u64 b,.int .i64 s]).map _=_
 rw[hk];rfl
theorem zix{key:Value}{kl:Lit}(h:keyOf prog 406 key=some kl):∃x:Int×Int,key=.agg #[.int .u64 x.1,.int .i64 x.2]:=by
 obtain⟨xs,L,rfl,h1,rfl⟩:=keyOf_top zan h;have h2:xs.toList.length=2:=by
  have hf:(Value.agg xs).formed prog 406 =true:=by
   unfold keyOf at h;simp only[underlying406] at h;by_cases q:(prog.keyType 406 && (Value.agg xs).formed prog 406)=true
   · exact(Bool.and_eq_true_iff.1 q).2
   · rw[if_neg q] at h;cases h
  simp[Value.formed,underlying406,z4p] at hf
  simpa using hf
 obtain⟨l⟩:=xs
 match l,h2 with
 |[c0,c1],_=>
  obtain⟨b,s,rfl,rfl,_⟩:=(z37 c0 c1 L).1 h1;exact⟨(b,s),rfl⟩
theorem zdc{b s b' s':Nat}(h:z7m b s=z7m b' s'):b=b'/\s=s':=by
 unfold z7m at h;injection h with h
 simp at h;omega
theorem zas{b s b' s':Nat}(hb:b<=18446744073709551615)(hs:s<=9223372036854775807)(hb':b'<=18446744073709551615)(hs':s'<=9223372036854775807)(h:rk b s=rk b' s'):b=b'/\s=s':=
 zdc (z2l.inj (z1C hb hs) (by rw[h];exact z1C hb' hs'))
theorem zar(b s:Nat):WideAt.IsKeyLit (rk b s):=trivial
structure Dic{α:Type}(D:DataW Value)(dat:α->DataW Value)(f:Nat->Nat->Option α):Prop where
 isMap:Maps.IsMap D
 dom:∀b s v,f b s=some v->b<=18446744073709551615/\s<=9223372036854775807
 yes:∀b s v,f b s=some v->∀z,D.atKey (rk b s) z=dat v
 only:∀kl,Maps.has D kl=true->∃b s v,f b s=some v/\kl=rk b s
section
variable {α:Type} {D:DataW Value} {dat:α->DataW Value} {f g:Nat->Nat->Option α}
theorem Dic.empty(dat:α->DataW Value):Dic (.map []) dat (λ_ _=>none):=⟨Maps.isMap_empty,λ_ _ _ h=>by simp at h,λ_ _ _ h=>by simp at h,λ_ h=>by simp[Maps.has] at h⟩
theorem Dic.congr(h:Dic D dat f)(e:∀b s,f b s=g b s):Dic D dat g:=by
 have:f=g:=funext λb=>funext λs=>e b s
 rwa [<-this]
theorem Dic.has(h:Dic D dat f){b s:Nat}{v:α}(e:f b s=some v):Maps.has D (rk b s)=true:=Maps.has_true_of_atKey (h.yes b s v e)
theorem Dic.hasNot(h:Dic D dat f){b s:Nat}(hb:b<=18446744073709551615)(hs:s<=9223372036854775807)(e:f b s=none):Maps.has D (rk b s)=false:=by
 cases q:Maps.has D (rk b s)
 · rfl
 · obtain⟨b',s',v,h1,h2⟩:=h.only _ q
   obtain⟨d1,d2⟩:=h.dom _ _ _ h1;obtain⟨rfl,rfl⟩:=zas hb hs d1 d2 h2;rw[h1] at e;cases e
theorem Dic.put(h:Dic D dat f){b s:Nat}(hb:b<=18446744073709551615)(hs:s<=9223372036854775807)(v:α):Dic (D.put (rk b s) (dat v)) dat (λb' s'=>if b'=b/\s'=s then some v else f b' s'):=by
 refine⟨h.isMap.put _ _,λb' s' v' e=> ?_,λb' s' v' e z=> ?_,λkl e=> ?_⟩
 · by_cases q:b'=b/\s'=s
   · obtain⟨rfl,rfl⟩:=q;exact⟨hb,hs⟩
   · rw[if_neg q] at e;exact h.dom _ _ _ e
 · by_cases q:b'=b/\s'=s
   · rw[if_pos q] at e
     obtain⟨rfl,rfl⟩:=q;injection e with e
     subst e;exact Maps.atKey_put_same h.isMap (zar _ _) _ _
   · rw[if_neg q] at e
     obtain⟨d1,d2⟩:=h.dom _ _ _ e;rw[Maps.atKey_put_other (λk=>q (zas d1 d2 hb hs k))];exact h.yes _ _ _ e z
 · by_cases q:kl=rk b s
   · exact⟨b,s,v,if_pos ⟨rfl,rfl⟩,q⟩
   · rw[Maps.has_put_other q] at e
     obtain⟨b',s',v',e1,e2⟩:=h.only _ e;refine⟨b',s',v',?_,e2⟩;rw[if_neg (λk=>q (by rw[e2,k.1,k.2]))];exact e1
end
def zet(x:Nat):DataW Value:=.lit (.int .i64 x)
def slv(x:Nat×Nat):Value:=.slice (some ⟨x.1,0,none⟩) x.2 x.2
def zes(x:Nat×Nat):DataW Value:=.held (slv x)
def z9s(v:Value):Option (DataW Value×List MemPlace):=
 match v with
 |.slice _ _ _=>some (.held v,[])
 |_=>none
theorem zdf{v:Value}{y:DataW Value×List MemPlace}(h:z9s v=some y):y=(.held v,[])/\∃c:Option Addr×Nat×Nat,v=.slice c.1 c.2.1 c.2.2:=by
 cases v<;>simp[z9s] at h
 exact⟨h.symm,(_,_,_),rfl⟩
def slo:Option (Nat×Nat)->Value
 |some x=>slv x
 |none=> .slice none 0 0
theorem zjL(w:World):(zeroValue 3).run prog w=.ok (.int .i64 0) w:=by kernel_rfl
theorem zjK(w:World):(zeroValue 407).run prog w=.ok (.slice none 0 0) w:=by kernel_rfl
theorem zk8{w:World}{m n:Nat}{D:DataW Value}{f:Nat->Nat->Option Nat}(h:w.ownsMap prog 406 (plainElem prog 3) m n D)(hd:Dic D zet f){b s:Nat}(hb:b<=18446744073709551615)(hs:s<=9223372036854775807):
 (Instr.lookup 403 (.map (some m)) (z7m b s) false).run prog w=.ok (.int .i64 (((f b s).getD 0:Nat):Int)) w:=by
 obtain⟨c,hrun,hat,_⟩:=h.lookup_int z2l underlying403 underlying3 (zjL w) (z1C hb hs);rw[hrun];cases e:f b s with
 |none=>
  rw[Maps.atKey_of_not_has (hd.hasNot hb hs e)] at hat;simp at hat;rw[<-hat];rfl
 |some v=>
  rw[hd.yes b s v e] at hat;simp[zet] at hat;rw[<-hat];rfl
theorem zh6{w:World}{m n:Nat}{D:DataW Value}{f:Nat->Nat->Option (Nat×Nat)}(h:w.ownsMap prog 406 z9s m n D)(hd:Dic D zes f){b s:Nat}(hb:b<=18446744073709551615)(hs:s<=9223372036854775807):
 (Instr.lookup 400 (.map (some m)) (z7m b s) false).run prog w=.ok (slo (f b s)) w:=by
 obtain⟨v,ps,hrun,hv⟩:=h.lookup z2l underlying400 (zjK w) (zd:=.held (.slice none 0 0)) (zp:=[]) rfl (z1C hb hs);rw[hrun];have hv2:=(zdf hv).1;cases e:f b s with
 |none=>
  rw[Maps.atKey_of_not_has (hd.hasNot hb hs e)] at hv2;simp at hv2;rw[<-hv2.1];rfl
 |some x=>
  rw[hd.yes b s x e] at hv2;simp[zes] at hv2;rw[<-hv2.1];rfl
theorem zf4{w:World}{m n:Nat}{D:DataW Value}{f:Nat->Nat->Option Nat}(h:w.ownsMap prog 406 (plainElem prog 3) m n D)(hd:Dic D zet f){b s:Nat}(hb:b<=18446744073709551615)(hs:s<=9223372036854775807)(hn:n<maxLen)(x:Nat)(hx:x<=9223372036854775807):
 ∃w' D',(Instr.mapUpdate 403 (.map (some m)) (z7m b s) (.int .i64 x)).run prog w=.ok () w'/\w'.ownsMap prog 406 (plainElem prog 3) m (n+1) D'/\Dic D' zet (λb' s'=>if b'=b/\s'=s then some x else f b' s')/\w.grownBy w' (some m):=by
 have hw:(Lit.int .i64 (x:Int)).wf=true:=(by simp[Lit.wf,IntKind.min,IntKind.max,IntKind.signed,IntKind.bits];omega);obtain⟨w',hrun,h1,h2⟩:=h.update z2l underlying403 hn (z1C hb hs) (plainElem_int underlying3 hw);exact⟨w',_,hrun,h1,hd.put hb hs x,h2⟩
theorem zim{w:World}{m n:Nat}{D:DataW Value}{f:Nat->Nat->Option (Nat×Nat)}(h:w.ownsMap prog 406 z9s m n D)(hd:Dic D zes f){b s:Nat}(hb:b<=18446744073709551615)(hs:s<=9223372036854775807)(hn:n<maxLen)(x:Nat×Nat):
 ∃w' D',(Instr.mapUpdate 400 (.map (some m)) (z7m b s) (slv x)).run prog w=.ok () w'/\w'.ownsMap prog 406 z9s m (n+1) D'/\Dic D' zes (λb' s'=>if b'=b/\s'=s then some x else f b' s')/\w.grownBy w' (some m):=by
 obtain⟨w',hrun,h1,h2⟩:=h.update z2l underlying400 hn (z1C hb hs) (R:=z9s) (val:=slv x) (d:=zes x) (ps:=[]) rfl;exact⟨w',_,hrun,h1,hd.put hb hs x,h2⟩
theorem z0D{H:Type}{P:Program}{k:TypeId}{R:Value->Option (DataW H×List MemPlace)}{w w':World}{b n:Nat}{D:DataW H}(h:w.ownsMap P k R b n D){B:Nat}(hb:Below B w w')(hB:b<B):w'.ownsMap P k R b n D:=by
 obtain⟨es,clock,h1,r⟩:=h;exact⟨es,clock,(hb.block b hB).trans h1,r⟩
theorem z63{P:Program}{o:Oper}{a:Act}{w w':World}{K:Act->World->Prop}{Q:Exit->Act->World->Prop}(d:Option Tmp)(hd:o.dst=d)(t:TypeId)(m x v:Operand)(ho:o.op=Op.mapUpdate t m x v)(mv key val:Value)(hm:a.eval m=mv)(hx:a.eval x=key)(hv:a.eval v=val)
 (hrun:(Instr.mapUpdate t mv key val).run P w=.ok () w') (h:K (a.put d undef) w'):Oper.wp P o a w K Q:=by
 subst hd;unfold Oper.wp;simp[execOp,ho,hm,hx,hv,hrun,Result.andThen];exact h
theorem z52{P:Program}{o:Oper}{a:Act}{w w':World}{K:Act->World->Prop}{Q:Exit->Act->World->Prop}(d:Option Tmp)(hd:o.dst=d)(t:TypeId)(x y:Operand)(ho:o.op=Op.makeSlice t x y)(xv yv r:Value)(hx:a.eval x=xv)(hy:a.eval y=yv)
 (hrun:(Instr.makeSlice t xv yv).run P w=.ok r w') (h:K (a.put d r) w'):Oper.wp P o a w K Q:=by
 subst hd;unfold Oper.wp;simp[execOp,ho,hx,hy,hrun,Result.andThen];exact h
