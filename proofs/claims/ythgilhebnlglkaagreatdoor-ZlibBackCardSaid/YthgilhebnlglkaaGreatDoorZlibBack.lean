/- Whatever it is called with, the Go function platenlaw17.ZlibBack returns true, and its arguments read behind the call as before it. What the statement lists: that the variables of packages parse, runs, symbol and zlib hold what the program's text lays in them; the card ties that to the text. -/
import Derived.Test.YthgilhebnlglkaaGreatDoorCards
import Derived.Test.YthgilhebnlglkaaGreatDoorTie
import Derived.Test.YthgilhebnlglkaaGreatDoorKMZbM
import Derived.ProofKit
import Derived.ShutString
namespace Go.Proofs.YthgilhebnlglkaaGreatDoor
open Go Go.RowKit M
set_option linter.unusedVariables false
theorem ZlibBack_walk(a0 a1:ByteArray)(a2 a3 a4 a5:Int)(W:World)(w0:a0.size≤maxLen)(w1:a1.size≤maxLen)(w2:(Lit.int .u8 a2).wf=true)(w3:(Lit.int .u16 a3).wf=true)(w4:(Lit.int .u8 a4).wf=true)(w5:(Lit.int .u8 a5).wf=true)(H:Z.Tabz W):
 Calls Tryz.prog 5 #[.string a0,.string a1,.int .u8 a2,.int .u16 a3,.int .u8 a4,.int .u8 a5] W fun e w'=>e=.returned (.bool true)∧Below W.heap.size W w':=by
 obtain⟨x2,rfl,h2⟩:=Z.u8_arg w2;obtain⟨x3,rfl,h3⟩:=Z.u16_arg w3;obtain⟨x4,rfl,h4⟩:=Z.u8_arg w4;obtain⟨x5,rfl,h5⟩:=Z.u8_arg w5;exact Z.zback_law Z.zsb Z.dfq (fun h=>h.1) a0 a1 x2 x3 x4 x5 W H h2 h3 h4 h5
end Go.Proofs.YthgilhebnlglkaaGreatDoor
namespace Go.Proofs.YthgilhebnlglkaaGreatDoor.zlibBack
open Go.ChangeShapes Go.WideShapes Go.ChangeAt Go.RowKit
open Go.ChangeMaps (open_string shut_string)
set_option linter.unusedVariables false
theorem own:ownKnob Tryz.prog.godebug=none:=by kernel_rfl
set_option maxRecDepth 100000 in
/-- What the walk gives, for every argument and every world that holds the levels. -/
theorem contract(H:Type)(enc:TypeId×Value→H)(W:World)(base:Nat)(args:Array Value)(ds gs:List (DataW H))(before:List MemPlace)
 (hval0:∀ (j:Nat) t v,Tryz.f5.params[j]? =some t→args[j]? =some v→Value.okWide Tryz.prog W .any base t v)
 (hW:DataW.Whole enc Tryz.prog Tryz.f5.params.toList Rows.zlibBackSpec.vars false W args.toList ds gs before) (hL:laidMetH Tryz.prog Rows.zlibBackRow.laid W):
 Calls Tryz.prog 5 args W fun e W'=> ∃v,e=.returned v∧Rows.zlibBackSpec.post enc Tryz.prog Tryz.f5 false true false false W args v W':=by
 have hval:∀ (j:Nat) t v,Tryz.f5.params[j]? =some t→args[j]? =some v→Value.okWide Tryz.prog W .any base t v:=hval0;have hW':=hW;obtain⟨p,q,hA0,hV,rfl,hfz,hnd⟩:=hW;have hA:DataW.TrodAll enc Tryz.prog W 0 (fun _=>true) true Tryz.f5.params.toList args.toList ds p:=hA0;rw[Tryz.params5] at hA hval;obtain⟨v0,vs0,d0,ds0,p0,q0,hargs,rfl,rfl,h0,r0⟩:=trodAll_cons hA;obtain⟨v1,vs1,d1,ds1,p1,q1,rfl,rfl,rfl,h1,r1⟩:=trodAll_cons r0;obtain⟨v2,vs2,d2,ds2,p2,q2,rfl,rfl,rfl,h2,r2⟩:=trodAll_cons r1;obtain⟨v3,vs3,d3,ds3,p3,q3,rfl,rfl,rfl,h3,r3⟩:=trodAll_cons r2;obtain⟨v4,vs4,d4,ds4,p4,q4,rfl,rfl,rfl,h4,r4⟩:=trodAll_cons r3;obtain⟨v5,vs5,d5,ds5,p5,q5,rfl,rfl,rfl,h5,r5⟩:=trodAll_cons r4;obtain⟨rfl,rfl,rfl⟩:=trodAll_nil r5;obtain rfl:args= #[v0,v1,v2,v3,v4,v5]:=by cases args;simp_all
 obtain⟨rfl,rfl⟩:=trodVars_none hV;obtain⟨a0,rfl,rfl,rfl,w0⟩:=open_string Tryz.underlying9 (hval 0 9 v0 rfl rfl) h0;obtain⟨a1,rfl,rfl,rfl,w1⟩:=open_string Tryz.underlying9 (hval 1 9 v1 rfl rfl) h1;obtain⟨a2,rfl,rfl,rfl,w2⟩:=open_int Tryz.underlying5 (hval 2 5 v2 rfl rfl) h2;obtain⟨a3,rfl,rfl,rfl,w3⟩:=open_int Tryz.underlying30 (hval 3 30 v3 rfl rfl) h3;obtain⟨a4,rfl,rfl,rfl,w4⟩:=open_int Tryz.underlying5 (hval 4 5 v4 rfl rfl) h4;obtain⟨a5,rfl,rfl,rfl,w5⟩:=open_int Tryz.underlying5 (hval 5 5 v5 rfl rfl) h5;clear hA0 hval0;refine(ZlibBack_walk a0 a1 a2 a3 a4 a5 W w0 w1 w2 w3 w4 w5 (Z.tabz_of_laid rfl hL)).mono fun e W' ⟨he,bel⟩=> ?_
 subst he;exact⟨_,rfl,_,_,_,[],_,[],hW',trodAll_mk1 (shut_bool Tryz.underlying4 _),(trodAll_cons_mk (shut_string Tryz.underlying9 w0) (trodAll_cons_mk (shut_string Tryz.underlying9 w1) (trodAll_cons_mk (shut_int Tryz.underlying5 w2) (trodAll_cons_mk (shut_int Tryz.underlying30 w3) (trodAll_cons_mk (shut_int Tryz.underlying5 w4) (trodAll_cons_mk (shut_int Tryz.underlying5 w5) trodAll_mk0)))))),rfl,bel.frame _,fun h=>by cases h⟩
/-- a variable's block, holding cells -/
def lay(cs:Array Value):Obj→Obj
 |.cells _ t frozen=> .cells cs t frozen
 |o=>o
/-- A world for the witness: the settled one, the variables' blocks holding what their initialisers lay. -/
noncomputable def laidWorld(os:Os):World:=
 {World.holding Tryz.prog os ⟨#[],#[],[]⟩ with heap:=((((((World.holding Tryz.prog os ⟨#[],#[],[]⟩).heap.modify 1 (lay #[.int .i64 0,.int .i64 0,.int .i64 0,.int .i64 4,.int .i64 8,.int .i64 0,.int .i64 8,.int .i64 16,.int .i64 0,.int .i64 16,.int .i64 32,.int .i64 0,.int .i64 8,.int .i64 16,.int .i64 4,.int .i64 16,.int .i64 32,.int .i64 16,.int .i64 64,.int .i64 128,.int .i64 16,.int .i64 128,.int .i64 128,.int .i64 32,.int .i64 512,.int .i64 258,.int .i64 128,.int .i64 2048,.int .i64 258,.int .i64 258])).modify 4 (lay #[.int .i64 1,.int .i64 0,.int .i64 1,.int .i64 0,.int .i64 1,.int .i64 0,.int .i64 1,.int .i64 0,.int .i64 1,.int .i64 0,.int .i64 1,.int .i64 0,.int .i64 1,.int .i64 0,.int .i64 1,.int .i64 0,.int .i64 1,.int .i64 0,.int .i64 1,.int .i64 0,.int .i64 1,.int .i64 0,.int .i64 1,.int .i64 0,.int .i64 1,.int .i64 0,.int .i64 1,.int .i64 0,.int .i64 1,.int .i64 0,.int .i64 1,.int .i64 0,.int .i64 3,.int .i64 2,.int .i64 3,.int .i64 3,.int .i64 11,.int .i64 7])).modify 2 (lay #[.int .i64 257,.int .i64 28,.int .i64 3,.int .i64 257,.int .i64 2])).modify 3 (lay #[.int .i64 0,.int .i64 30,.int .i64 1,.int .i64 32768,.int .i64 1])).modify 0 (lay #[.int .u8 0,.int .u8 0,.int .u8 1,.int .u8 1,.int .u8 1,.int .u8 1,.int .u8 2,.int .u8 3,.int .u8 3,.int .u8 3]))}
theorem laid_met(os:Os):laidMet Tryz.prog Rows.zlibBackRow.laid ((laidWorld os).forCall (fun _ _=>0) ⟨#[],#[Value.string ByteArray.empty,.string ByteArray.empty,.int .u8 0,.int .u16 0,.int .u8 0,.int .u8 0],[]⟩).memory:=
 laidMet_of_run' 8 (by kernel_rfl) (by kernel_rfl)
theorem reads(os:Os){H:Type}(enc:TypeId×Value→H):∃places,DataW.whole enc Tryz.prog ((laidWorld os).forCall (fun _ _=>0) ⟨#[],#[Value.string ByteArray.empty,.string ByteArray.empty,.int .u8 0,.int .u16 0,.int .u8 0,.int .u8 0],[]⟩).memory Tryz.f5.params.toList Rows.zlibBackSpec.vars false (#[Value.string ByteArray.empty,.string ByteArray.empty,.int .u8 0,.int .u16 0,.int .u8 0,.int .u8 0]).toList 8=some ([.lit (.string []),.lit (.string []),.lit (.int .u8 0),.lit (.int .u16 0),.lit (.int .u8 0),.lit (.int .u8 0)],[],places):=
 ⟨[],by kernel_rfl⟩
set_option maxRecDepth 100000 in
theorem lifted(os:Os)(started:os.Started)(H:Type)(enc:TypeId×Value→H)(F:Stop.Interp):
 ReturnsInHanded {} Tryz.checked os 5 .any ((OpenSpec.ofChange Rows.zlibBackSpec).preRow enc Tryz.prog Tryz.f5 Rows.zlibBackRow.domain false Rows.zlibBackRow.laid) (((OpenSpec.ofChange Rows.zlibBackSpec).at F).post enc Tryz.prog Tryz.f5 false true false false):=by
 obtain⟨places,hx⟩:=reads os enc
 refine returnsInHanded_of_row (C:= Tryz.checked) (s:=OpenSpec.ofChange Rows.zlibBackSpec) own started (by kernel_rfl) Tryz.func5
  (witness_row_at (enc:=enc) (C:= Tryz.checked) false (laidWorld os) #[Value.string ByteArray.empty,.string ByteArray.empty,.int .u8 0,.int .u16 0,.int .u8 0,.int .u8 0] rfl (by kernel_rfl) (by kernel_rfl) (by kernel_rfl)
   (OpenSpec.preRow_of_cond 8 hx (by kernel_rfl) (fun k hk=>by cases hk) (by kernel_rfl) (laid_met os))) ?_
 intro W base args ds gs before hval hW _ _ _ hL _ _;exact contract H enc W base args ds gs before hval hW hL
theorem j10:(Rows.zlibBackRow.inPlace== Tryz.pinned.checked.prog.inPlace 5)=true:=by kernel_rfl
theorem j11:(Rows.zlibBackRow.unfollowed== Tryz.pinned.checked.prog.unfollowed 5)=true:=by kernel_rfl
theorem j12:(Rows.zlibBackRow.recurses== Tryz.pinned.checked.prog.recurses 5)=true:=by kernel_rfl
theorem j13:(Rows.zlibBackRow.named== Tryz.pinned.checked.prog.varsNamed 5)=true:=by kernel_rfl
theorem said:Rows.ZlibBackSaid:=
 OpenClaim.holds_of_cond 5 Tryz.f5 rfl rfl rfl rfl rfl rfl rfl ⟨rfl,rfl,rfl,rfl,rfl⟩ rfl rfl rfl rfl rfl (by kernel_rfl) Tryz.func5 (by unfold joinedFacts;rw[j10,j11,j12,j13];kernel_rfl)
  (of_decide_eq_true (by kernel_rfl)) (by unfold Func.isWrapper;first|(rw[if_pos (by decide+kernel)];kernel_rfl)|(rw[if_neg (by decide+kernel)];exact⟨rfl,rfl⟩))
  (fun os started H enc _ F=>by rw[OpenClaim.pre_eq_preRow];exact lifted os started H enc F)
/-- No parameter wants a stand-in; the program's own looks are off: what the card asks. -/
theorem plain(f:FuncId)(fn:Func)(hf: Tryz.pinned.checked.prog.funcNamed "platen/platenlaw17.ZlibBack" =some f)(hfn: Tryz.pinned.checked.prog.funcs[f]? =some fn):
 true= Tryz.pinned.checked.prog.looks []∧∀ (j:Nat) t,fn.params[j]? =some t→ Tryz.pinned.checked.prog.wantsStandIn t=false:=by
 obtain rfl:f= 5 :=Option.some.inj ((show Tryz.prog.funcNamed "platen/platenlaw17.ZlibBack" =some 5 by kernel_rfl).symm.trans hf)|>.symm
 obtain rfl:fn= Tryz.f5 :=(Option.some.inj (Tryz.func5.symm.trans hfn)).symm;refine⟨by kernel_rfl,fun j t ht=> ?_⟩;rw[Tryz.params5] at ht;have hm:t∈[9,9,5,30,5,5]:=by simpa using Array.mem_of_getElem? ht
 have hall:([9,9,5,30,5,5].all fun u=> !Tryz.prog.wantsStandIn u)=true:=by kernel_rfl
 exact(show Tryz.prog.wantsStandIn t=false by simpa using List.all_eq_true.1 hall t hm)
/-- The statement: the card. -/
theorem proved:Rows.ZlibBackCardSaid:=
 Claim7.holds_tied_plain_at .later [] _ _ _ _ said (fun _ h=>by cases h) (by kernel_rfl) (fun _ h=>by cases h) zlibBack_row_tie rfl ⟨rfl,rfl⟩ (by kernel_rfl) rfl plain (by kernel_rfl)
#print axioms proved
end Go.Proofs.YthgilhebnlglkaaGreatDoor.zlibBack
