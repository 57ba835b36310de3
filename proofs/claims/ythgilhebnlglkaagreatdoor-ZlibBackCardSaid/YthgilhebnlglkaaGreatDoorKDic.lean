import Derived.Test.YthgilhebnlglkaaGreatDoorKHfA
import Derived.DeepKeys4
set_option linter.all false
set_option maxHeartbeats 0
set_option maxRecDepth 1000000
open Go.Proofs.Tryz
namespace Go.Proofs.YthgilhebnlglkaaGreatDoor
namespace H
open Go Go.RowKit M C
theorem laidAll:laidOutB prog=true:=by kernel_rfl
theorem rowWide:(match prog.underlying 406 with|some (.array _ _)|some (.struct _)=>true|_=>false)=true:=by kernel_rfl
theorem rowLaw:Maps.Keyed prog 406 :=
 Maps.Keyed.of_law (deep_law_laid laidAll (m:=2) (by omega) (Cv (by kernel_rfl)) (by kernel_rfl) rowWide)
def rkey(b s:Nat):Value:=.agg #[.int .u64 b,.int .i64 s]
def rk(b s:Nat):Lit:=.string (keyBytes [.int .u64 b,.int .i64 s])
theorem rowTy: prog.keyType 406 =true:=by kernel_rfl
theorem rowCells: prog.cellsOf 406 =2:=by kernel_rfl
theorem wT: prog.cellsOf 36 =1:=by kernel_rfl
theorem yR: prog.cellsOf 3 =1:=by kernel_rfl
theorem tySize:∃d,prog.types.size=d+1:=⟨prog.types.size - 1,by have:(0:Nat)< prog.types.size:=Cv (by kernel_rfl);omega⟩
theorem keyLits_row(x y:Value)(L:List Lit): prog.keyLits (prog.types.size+1) 406 [x,y]=some L↔∃b s:Int,x=.int .u64 b/\y=.int .i64 s/\(Lit.int .u64 b).wf=true/\(Lit.int .i64 s).wf=true/\L=[.int .u64 b,.int .i64 s]:=by
 obtain⟨d,j⟩:=tySize;have k:∀x:Value,prog.keyLits (d+1) 36 [x]=(match x with|.int q n=>if q=.u64/\(Lit.int .u64 n).wf=true then some [.int .u64 n] else none|_=>none):=λx=>by
  cases x<;>simp[Program.keyLits,underlying36]
 have m:∀x:Value,prog.keyLits (d+1) 3 [x]=(match x with|.int q n=>if q=.i64/\(Lit.int .i64 n).wf=true then some [.int .i64 n] else none|_=>none):=λx=>by
  cases x<;>simp[Program.keyLits,underlying3]
 rw[j];have l: prog.keyLits (d+1+1) 406 [x,y]=(do let a <- prog.keyLits (d+1) 36 [x];let b <- prog.keyLits (d+1) 3 [y];some (a++b)):=by
  rw[Program.keyLits.eq_def];simp only[underlying406];simp[rowCells,wT,yR];cases prog.keyLits (d+1) 36 [x]<;>simp
  cases prog.keyLits (d+1) 3 [y]<;>simp
 rw[l,k,m];constructor
 · intro h
   obtain⟨a,g,h⟩:=Option.bind_eq_some_iff.1 h;obtain⟨c,i,h⟩:=Option.bind_eq_some_iff.1 h;cases x<;>simp at g
   cases y<;>simp at i
   obtain⟨⟨rfl,e⟩,rfl⟩:=g;obtain⟨⟨rfl,f⟩,rfl⟩:=i;simp at h;exact⟨_,_,rfl,rfl,e,f,h.symm⟩
 · rintro⟨b,s,rfl,rfl,e,f,rfl⟩
   simp[e,f]
theorem rk_some{b s:Nat}(e:b<=18446744073709551615)(hs:s<=9223372036854775807):keyOf prog 406 (rkey b s)=some (rk b s):=by
 have a:(Lit.int .u64 (b:Int)).wf=true:=(by simp[Lit.wf,IntKind.min,IntKind.max,IntKind.signed,IntKind.bits];omega);have c:(Lit.int .i64 (s:Int)).wf=true:=(by simp[Lit.wf,IntKind.min,IntKind.max,IntKind.signed,IntKind.bits];omega);have hf:(rkey b s).formed prog 406 =true:=(by simp[rkey,Value.formed,underlying406,rowCells]);have d:=(keyLits_row (.int .u64 b) (.int .i64 s) _).2 ⟨b,s,rfl,rfl,a,c,rfl⟩;unfold keyOf;simp only[underlying406];rw[A7 (by rw[rowTy,hf];rfl)];show(prog.keyLits (prog.types.size+1) 406 [.int .u64 b,.int .i64 s]).map _=_
 rw[d];rfl
theorem J4{a:Value}{f:Lit}(h:keyOf prog 406 a=some f):∃x:Int×Int,a=.agg #[.int .u64 x.1,.int .i64 x.2]:=by
 obtain⟨c,L,rfl,d,rfl⟩:=keyOf_top rowWide h;have e:c.toList.length=2:=by
  have hf:(Value.agg c).formed prog 406 =true:=by
   unfold keyOf at h;simp only[underlying406] at h;by_cases q:(prog.keyType 406 && (Value.agg c).formed prog 406)=true
   · exact(Bool.and_eq_true_iff.1 q).2
   · rw[A0 q] at h;cases h
  simp[Value.formed,underlying406,rowCells] at hf
  simpa using hf
 obtain⟨l⟩:=c
 match l,e with
 |[c0,c1],_=>
  obtain⟨b,s,rfl,rfl,_⟩:=(keyLits_row c0 c1 L).1 d;exact⟨(b,s),rfl⟩
theorem rkey_inj{b s b' s':Nat}(h:rkey b s=rkey b' s'):b=b'/\s=s':=by
 unfold rkey at h;injection h with h
 simp at h;omega
theorem rk_inj{b s b' s':Nat}(d:b<=18446744073709551615)(hs:s<=9223372036854775807)(a:b'<=18446744073709551615)(c:s'<=9223372036854775807)(h:rk b s=rk b' s'):b=b'/\s=s':=
 rkey_inj (rowLaw.inj (rk_some d hs) (by rw[h];exact rk_some a c))
theorem rk_key(b s:Nat):WideAt.IsKeyLit (rk b s):=trivial
structure Dic{α:Type}(D:DataW Value)(dat:α->DataW Value)(f:Nat->Nat->Option α):Prop where
 isMap:Maps.IsMap D
 dom:∀b s v,f b s=some v->b<=18446744073709551615/\s<=9223372036854775807
 yes:∀b s v,f b s=some v->∀z,D.atKey (rk b s) z=dat v
 only:∀kl,Maps.has D kl=true->∃b s v,f b s=some v/\kl=rk b s
section
variable {α:Type} {D:DataW Value} {dat:α->DataW Value} {f g:Nat->Nat->Option α}
theorem Dic.empty(dat:α->DataW Value):Dic (.map []) dat (λ_ _=>none):=⟨Maps.isMap_empty,λ_ _ _ h=>by simp at h,λ_ _ _ h=>by simp at h,λ_ h=>by simp[Maps.has] at h⟩
theorem Dic.congr(h:Dic D dat f)(e:∀b s,f b s=g b s):Dic D dat g:=by
 have:f=g:=funext λb=>funext λs=>e b s
 rwa [<-this]
theorem Dic.has(h:Dic D dat f){b s:Nat}{v:α}(e:f b s=some v):Maps.has D (rk b s)=true:=Maps.has_true_of_atKey (h.yes b s v e)
theorem Dic.hasNot(h:Dic D dat f){b s:Nat}(c:b<=18446744073709551615)(hs:s<=9223372036854775807)(e:f b s=none):Maps.has D (rk b s)=false:=by
 cases q:Maps.has D (rk b s)
 · rfl
 · obtain⟨b',k,v,a,j⟩:=h.only _ q
   obtain⟨i,d⟩:=h.dom _ _ _ a;obtain⟨rfl,rfl⟩:=rk_inj c hs i d j;rw[a] at e;cases e
theorem Dic.put(h:Dic D dat f){b s:Nat}(d:b<=18446744073709551615)(hs:s<=9223372036854775807)(v:α):Dic (D.put (rk b s) (dat v)) dat (λb' a=>if b'=b/\a=s then some v else f b' a):=by
 refine⟨h.isMap.put _ _,λb' a c e=> ?_,λb' a c e z=> ?_,λn e=> ?_⟩
 · by_cases q:b'=b/\a=s
   · obtain⟨rfl,rfl⟩:=q;exact⟨d,hs⟩
   · rw[A0 q] at e;exact h.dom _ _ _ e
 · by_cases q:b'=b/\a=s
   · rw[A7 q] at e
     obtain⟨rfl,rfl⟩:=q;injection e with e
     subst e;exact Maps.atKey_put_same h.isMap (rk_key _ _) _ _
   · rw[A0 q] at e
     obtain⟨l,j⟩:=h.dom _ _ _ e;rw[Maps.atKey_put_other (λk=>q (rk_inj l j d hs k))];exact h.yes _ _ _ e z
 · by_cases q:n=rk b s
   · exact⟨b,s,v,A7 ⟨rfl,rfl⟩,q⟩
   · rw[Maps.has_put_other q] at e
     obtain⟨b',a,c,m,i⟩:=h.only _ e;refine⟨b',a,c,?_,i⟩;rw[A0 (λk=>q (by rw[i,k.1,k.2]))];exact m
end
def zi(x:Nat):DataW Value:=.lit (.int .i64 x)
def slv(x:Nat×Nat):Value:=.slice (some ⟨x.1,0,none⟩) x.2 x.2
def zh(x:Nat×Nat):DataW Value:=.held (slv x)
def rN(v:Value):Option (DataW Value×List MemPlace):=
 match v with
 |.slice _ _ _=>some (.held v,[])
 |_=>none
theorem xD{v:Value}{y:DataW Value×List MemPlace}(h:rN v=some y):y=(.held v,[])/\∃c:Option Addr×Nat×Nat,v=.slice c.1 c.2.1 c.2.2:=by
 cases v<;>simp[rN] at h
 exact⟨h.symm,(_,_,_),rfl⟩
def slo:Option (Nat×Nat)->Value
 |some x=>slv x
 |none=> .slice none 0 0
theorem KO(w:World):(zeroValue 3).run prog w=.ok (.int .i64 0) w:=by kernel_rfl
theorem zeroS(w:World):(zeroValue 407).run prog w=.ok (.slice none 0 0) w:=by kernel_rfl
theorem Li{w:World}{m n:Nat}{D:DataW Value}{f:Nat->Nat->Option Nat}(h:w.ownsMap prog 406 (plainElem prog 3) m n D)(i:Dic D zi f){b s:Nat}(j:b<=18446744073709551615)(hs:s<=9223372036854775807):
 (Instr.lookup 403 (.map (some m)) (rkey b s) false).run prog w=.ok (.int .i64 (((f b s).getD 0:Nat):Int)) w:=by
 obtain⟨c,d,a,_⟩:=h.lookup_int rowLaw underlying403 underlying3 (KO w) (rk_some j hs);rw[d];cases e:f b s with
 |none=>
  rw[Maps.atKey_of_not_has (i.hasNot j hs e)] at a;simp at a;rw[<-a];rfl
 |some v=>
  rw[i.yes b s v e] at a;simp[zi] at a;rw[<-a];rfl
theorem GB{w:World}{m n:Nat}{D:DataW Value}{f:Nat->Nat->Option (Nat×Nat)}(h:w.ownsMap prog 406 rN m n D)(i:Dic D zh f){b s:Nat}(d:b<=18446744073709551615)(hs:s<=9223372036854775807):
 (Instr.lookup 400 (.map (some m)) (rkey b s) false).run prog w=.ok (slo (f b s)) w:=by
 obtain⟨v,ps,c,j⟩:=h.lookup rowLaw underlying400 (zeroS w) (zd:=.held (.slice none 0 0)) (zp:=[]) rfl (rk_some d hs);rw[c];have a:=(xD j).1;cases e:f b s with
 |none=>
  rw[Maps.atKey_of_not_has (i.hasNot d hs e)] at a;simp at a;rw[<-a.1];rfl
 |some x=>
  rw[i.yes b s x e] at a;simp[zh] at a;rw[<-a.1];rfl
theorem DR{w:World}{m n:Nat}{D:DataW Value}{f:Nat->Nat->Option Nat}(h:w.ownsMap prog 406 (plainElem prog 3) m n D)(j:Dic D zi f){b s:Nat}(c:b<=18446744073709551615)(hs:s<=9223372036854775807)(o:n<maxLen)(x:Nat)(p:x<=9223372036854775807):
 ∃w' d,(Instr.mapUpdate 403 (.map (some m)) (rkey b s) (.int .i64 x)).run prog w=.ok () w'/\w'.ownsMap prog 406 (plainElem prog 3) m (n+1) d/\Dic d zi (λb' e=>if b'=b/\e=s then some x else f b' e)/\w.grownBy w' (some m):=by
 have k:(Lit.int .i64 (x:Int)).wf=true:=(by simp[Lit.wf,IntKind.min,IntKind.max,IntKind.signed,IntKind.bits];omega);obtain⟨w',a,i,l⟩:=h.update rowLaw underlying403 o (rk_some c hs) (plainElem_int underlying3 k);exact⟨w',_,a,i,j.put c hs x,l⟩
theorem IU{w:World}{m n:Nat}{D:DataW Value}{f:Nat->Nat->Option (Nat×Nat)}(h:w.ownsMap prog 406 rN m n D)(k:Dic D zh f){b s:Nat}(c:b<=18446744073709551615)(hs:s<=9223372036854775807)(o:n<maxLen)(x:Nat×Nat):
 ∃w' e,(Instr.mapUpdate 400 (.map (some m)) (rkey b s) (slv x)).run prog w=.ok () w'/\w'.ownsMap prog 406 rN m (n+1) e/\Dic e zh (λb' i=>if b'=b/\i=s then some x else f b' i)/\w.grownBy w' (some m):=by
 obtain⟨w',a,j,l⟩:=h.update rowLaw underlying400 o (rk_some c hs) (R:=rN) (val:=slv x) (d:=zh x) (ps:=[]) rfl;exact⟨w',_,a,j,k.put c hs x,l⟩
theorem aT{H:Type}{P:Program}{k:TypeId}{R:Value->Option (DataW H×List MemPlace)}{w w':World}{b n:Nat}{D:DataW H}(h:w.ownsMap P k R b n D){B:Nat}(e:Below B w w')(c:b<B):w'.ownsMap P k R b n D:=by
 obtain⟨d,clock,a,r⟩:=h;exact⟨d,clock,(e.block b c).trans a,r⟩
theorem lB{P:Program}{o:Oper}{a:Act}{w w':World}{K:Act->World->Prop}{Q:Exit->Act->World->Prop}(d:Option Tmp)(l:o.dst=d)(t:TypeId)(m x v:Operand)(n:o.op=Op.mapUpdate t m x v)(e b val:Value)(j:a.eval m=e)(i:a.eval x=b)(k:a.eval v=val)
 (c:(Instr.mapUpdate t e b val).run P w=.ok () w') (h:K (a.put d undef) w'):Oper.wp P o a w K Q:=by
 subst l;unfold Oper.wp;simp[execOp,n,j,i,k,c,Result.andThen];exact h
theorem jD{P:Program}{o:Oper}{a:Act}{w w':World}{K:Act->World->Prop}{Q:Exit->Act->World->Prop}(d:Option Tmp)(k:o.dst=d)(t:TypeId)(x y:Operand)(l:o.op=Op.makeSlice t x y)(c e r:Value)(i:a.eval x=c)(j:a.eval y=e)
 (b:(Instr.makeSlice t c e).run P w=.ok r w') (h:K (a.put d r) w'):Oper.wp P o a w K Q:=by
 subst k;unfold Oper.wp;simp[execOp,l,i,j,b,Result.andThen];exact h
