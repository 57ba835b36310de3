/- Whatever it is called with, the Go function platenlaw17.ZlibReads returns true, and its arguments read behind the call as before it. What the statement lists: that the variables of packages parse, runs, symbol and zlib hold what the program's text lays in them; the card ties that to the text. -/
import Derived.Test.YthgilhebnlglkaaGreatDoorCards
import Derived.Test.YthgilhebnlglkaaGreatDoorTie
import Derived.Test.YthgilhebnlglkaaGreatDoorEMZdE
import Derived.ProofKit
import Derived.ShutString
namespace Go.Proofs.YthgilhebnlglkaaGreatDoor
open Go Go.RowKit M
set_option linter.unusedVariables false
theorem ZlibReads_walk(a0 a1:ByteArray)(a2:Int)(W:World)(w0:a0.size≤maxLen)(w1:a1.size≤maxLen)(w2:(Lit.int .i64 a2).wf=true)(H:Z.Tabz W):
 Calls Tryz.prog 3 #[.string a0,.string a1,.int .i64 a2] W fun e w'=>e=.returned (.bool true)∧Below W.heap.size W w':=Z.zreads_law Z.zs a0 a1 a2 W H w2
end Go.Proofs.YthgilhebnlglkaaGreatDoor
namespace Go.Proofs.YthgilhebnlglkaaGreatDoor.zlibReads
open Go.ChangeShapes Go.WideShapes Go.ChangeAt Go.RowKit
open Go.ChangeMaps (open_string shut_string)
set_option linter.unusedVariables false
theorem own:ownKnob Tryz.prog.godebug=none:=by kernel_rfl
set_option maxRecDepth 100000 in
/-- What the walk gives, for every argument and every world that holds the levels. -/
theorem contract(H:Type)(enc:TypeId×Value→H)(W:World)(base:Nat)(args:Array Value)(ds gs:List (DataW H))(before:List MemPlace)
 (hval0:∀ (j:Nat) t v,Tryz.f3.params[j]? =some t→args[j]? =some v→Value.okWide Tryz.prog W .any base t v)
 (hW:DataW.Whole enc Tryz.prog Tryz.f3.params.toList Rows.zlibReadsSpec.vars false W args.toList ds gs before) (hL:laidMetH Tryz.prog Rows.zlibReadsRow.laid W):
 Calls Tryz.prog 3 args W fun e W'=> ∃v,e=.returned v∧Rows.zlibReadsSpec.post enc Tryz.prog Tryz.f3 false true false false W args v W':=by
 have hval:∀ (j:Nat) t v,Tryz.f3.params[j]? =some t→args[j]? =some v→Value.okWide Tryz.prog W .any base t v:=hval0;have hW':=hW;obtain⟨p,q,hA0,hV,rfl,hfz,hnd⟩:=hW;have hA:DataW.TrodAll enc Tryz.prog W 0 (fun _=>true) true Tryz.f3.params.toList args.toList ds p:=hA0;rw[Tryz.params3] at hA hval;obtain⟨v0,vs0,d0,ds0,p0,q0,hargs,rfl,rfl,h0,r0⟩:=trodAll_cons hA;obtain⟨v1,vs1,d1,ds1,p1,q1,rfl,rfl,rfl,h1,r1⟩:=trodAll_cons r0;obtain⟨v2,vs2,d2,ds2,p2,q2,rfl,rfl,rfl,h2,r2⟩:=trodAll_cons r1;obtain⟨rfl,rfl,rfl⟩:=trodAll_nil r2;obtain rfl:args= #[v0,v1,v2]:=by cases args;simp_all
 obtain⟨rfl,rfl⟩:=trodVars_none hV;obtain⟨a0,rfl,rfl,rfl,w0⟩:=open_string Tryz.underlying9 (hval 0 9 v0 rfl rfl) h0;obtain⟨a1,rfl,rfl,rfl,w1⟩:=open_string Tryz.underlying9 (hval 1 9 v1 rfl rfl) h1;obtain⟨a2,rfl,rfl,rfl,w2⟩:=open_int Tryz.underlying3 (hval 2 3 v2 rfl rfl) h2;clear hA0 hval0;refine(ZlibReads_walk a0 a1 a2 W w0 w1 w2 (Z.tabz_of_laid rfl hL)).mono fun e W' ⟨he,bel⟩=> ?_
 subst he;exact⟨_,rfl,_,_,_,[],_,[],hW',trodAll_mk1 (shut_bool Tryz.underlying4 _),(trodAll_cons_mk (shut_string Tryz.underlying9 w0) (trodAll_cons_mk (shut_string Tryz.underlying9 w1) (trodAll_cons_mk (shut_int Tryz.underlying3 w2) trodAll_mk0))),rfl,bel.frame _,fun h=>by cases h⟩
/-- a variable's block, holding cells -/
def lay(cs:Array Value):Obj→Obj
 |.cells _ t frozen=> .cells cs t frozen
 |o=>o
/-- A world for the witness: the settled one, the variables' blocks holding what their initialisers lay. -/
noncomputable def laidWorld(os:Os):World:=
 {World.holding Tryz.prog os ⟨#[],#[],[]⟩ with heap:=((((((World.holding Tryz.prog os ⟨#[],#[],[]⟩).heap.modify 1 (lay #[.int .i64 0,.int .i64 0,.int .i64 0,.int .i64 4,.int .i64 8,.int .i64 0,.int .i64 8,.int .i64 16,.int .i64 0,.int .i64 16,.int .i64 32,.int .i64 0,.int .i64 8,.int .i64 16,.int .i64 4,.int .i64 16,.int .i64 32,.int .i64 16,.int .i64 64,.int .i64 128,.int .i64 16,.int .i64 128,.int .i64 128,.int .i64 32,.int .i64 512,.int .i64 258,.int .i64 128,.int .i64 2048,.int .i64 258,.int .i64 258])).modify 4 (lay #[.int .i64 1,.int .i64 0,.int .i64 1,.int .i64 0,.int .i64 1,.int .i64 0,.int .i64 1,.int .i64 0,.int .i64 1,.int .i64 0,.int .i64 1,.int .i64 0,.int .i64 1,.int .i64 0,.int .i64 1,.int .i64 0,.int .i64 1,.int .i64 0,.int .i64 1,.int .i64 0,.int .i64 1,.int .i64 0,.int .i64 1,.int .i64 0,.int .i64 1,.int .i64 0,.int .i64 1,.int .i64 0,.int .i64 1,.int .i64 0,.int .i64 1,.int .i64 0,.int .i64 3,.int .i64 2,.int .i64 3,.int .i64 3,.int .i64 11,.int .i64 7])).modify 2 (lay #[.int .i64 257,.int .i64 28,.int .i64 3,.int .i64 257,.int .i64 2])).modify 3 (lay #[.int .i64 0,.int .i64 30,.int .i64 1,.int .i64 32768,.int .i64 1])).modify 0 (lay #[.int .u8 0,.int .u8 0,.int .u8 1,.int .u8 1,.int .u8 1,.int .u8 1,.int .u8 2,.int .u8 3,.int .u8 3,.int .u8 3]))}
theorem laid_met(os:Os):laidMet Tryz.prog Rows.zlibReadsRow.laid ((laidWorld os).forCall (fun _ _=>0) ⟨#[],#[Value.string ByteArray.empty,.string ByteArray.empty,.int .i64 0],[]⟩).memory:=
 laidMet_of_run' 8 (by kernel_rfl) (by kernel_rfl)
theorem reads(os:Os){H:Type}(enc:TypeId×Value→H):∃places,DataW.whole enc Tryz.prog ((laidWorld os).forCall (fun _ _=>0) ⟨#[],#[Value.string ByteArray.empty,.string ByteArray.empty,.int .i64 0],[]⟩).memory Tryz.f3.params.toList Rows.zlibReadsSpec.vars false (#[Value.string ByteArray.empty,.string ByteArray.empty,.int .i64 0]).toList 8=some ([.lit (.string []),.lit (.string []),.lit (.int .i64 0)],[],places):=
 ⟨[],by kernel_rfl⟩
set_option maxRecDepth 100000 in
theorem lifted(os:Os)(started:os.Started)(H:Type)(enc:TypeId×Value→H)(F:Stop.Interp):
 ReturnsInHanded {} Tryz.checked os 3 .any ((OpenSpec.ofChange Rows.zlibReadsSpec).preRow enc Tryz.prog Tryz.f3 Rows.zlibReadsRow.domain false Rows.zlibReadsRow.laid) (((OpenSpec.ofChange Rows.zlibReadsSpec).at F).post enc Tryz.prog Tryz.f3 false true false false):=by
 obtain⟨places,hx⟩:=reads os enc
 refine returnsInHanded_of_row (C:= Tryz.checked) (s:=OpenSpec.ofChange Rows.zlibReadsSpec) own started (by kernel_rfl) Tryz.func3
  (witness_row_at (enc:=enc) (C:= Tryz.checked) false (laidWorld os) #[Value.string ByteArray.empty,.string ByteArray.empty,.int .i64 0] rfl (by kernel_rfl) (by kernel_rfl) (by kernel_rfl)
   (OpenSpec.preRow_of_cond 8 hx (by kernel_rfl) (fun k hk=>by cases hk) (by kernel_rfl) (laid_met os))) ?_
 intro W base args ds gs before hval hW _ _ _ hL _ _;exact contract H enc W base args ds gs before hval hW hL
theorem j10:(Rows.zlibReadsRow.inPlace== Tryz.pinned.checked.prog.inPlace 3)=true:=by kernel_rfl
theorem j11:(Rows.zlibReadsRow.unfollowed== Tryz.pinned.checked.prog.unfollowed 3)=true:=by kernel_rfl
theorem j12:(Rows.zlibReadsRow.recurses== Tryz.pinned.checked.prog.recurses 3)=true:=by kernel_rfl
theorem j13:(Rows.zlibReadsRow.named== Tryz.pinned.checked.prog.varsNamed 3)=true:=by kernel_rfl
theorem said:Rows.ZlibReadsSaid:=
 OpenClaim.holds_of_cond 3 Tryz.f3 rfl rfl rfl rfl rfl rfl rfl ⟨rfl,rfl,rfl,rfl,rfl⟩ rfl rfl rfl rfl rfl (by kernel_rfl) Tryz.func3 (by unfold joinedFacts;rw[j10,j11,j12,j13];kernel_rfl)
  (of_decide_eq_true (by kernel_rfl)) (by unfold Func.isWrapper;first|(rw[if_pos (by decide+kernel)];kernel_rfl)|(rw[if_neg (by decide+kernel)];exact⟨rfl,rfl⟩))
  (fun os started H enc _ F=>by rw[OpenClaim.pre_eq_preRow];exact lifted os started H enc F)
/-- No parameter wants a stand-in; the program's own looks are off: what the card asks. -/
theorem plain(f:FuncId)(fn:Func)(hf: Tryz.pinned.checked.prog.funcNamed "platen/platenlaw17.ZlibReads" =some f)(hfn: Tryz.pinned.checked.prog.funcs[f]? =some fn):
 true= Tryz.pinned.checked.prog.looks []∧∀ (j:Nat) t,fn.params[j]? =some t→ Tryz.pinned.checked.prog.wantsStandIn t=false:=by
 obtain rfl:f= 3 :=Option.some.inj ((show Tryz.prog.funcNamed "platen/platenlaw17.ZlibReads" =some 3 by kernel_rfl).symm.trans hf)|>.symm
 obtain rfl:fn= Tryz.f3 :=(Option.some.inj (Tryz.func3.symm.trans hfn)).symm;refine⟨by kernel_rfl,fun j t ht=> ?_⟩;rw[Tryz.params3] at ht;have hm:t∈[9,9,3]:=by simpa using Array.mem_of_getElem? ht
 have hall:([9,9,3].all fun u=> !Tryz.prog.wantsStandIn u)=true:=by kernel_rfl
 exact(show Tryz.prog.wantsStandIn t=false by simpa using List.all_eq_true.1 hall t hm)
/-- The statement: the card. -/
theorem proved:Rows.ZlibReadsCardSaid:=
 Claim7.holds_tied_plain_at .later [] _ _ _ _ said (fun _ h=>by cases h) (by kernel_rfl) (fun _ h=>by cases h) zlibReads_row_tie rfl ⟨rfl,rfl⟩ (by kernel_rfl) rfl plain (by kernel_rfl)
#print axioms proved
end Go.Proofs.YthgilhebnlglkaaGreatDoor.zlibReads
