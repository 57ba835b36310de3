/- Whatever it is called with, the Go function platenlaw16.InflateSpoilt returns true, and its arguments read behind the call as before it. What the statement lists: that the variables of packages runs and symbol hold what the program's text lays in them; the card ties that to the text. -/
import Derived.Test.YtdpabanajgegjaaGreatDoorCards
import Derived.Test.YtdpabanajgegjaaGreatDoorTie
import Derived.Test.YtdpabanajgegjaaGreatDoorEMJdI
import Derived.Test.YtdpabanajgegjaaGreatDoorEIsr
import Derived.Test.YtdpabanajgegjaaGreatDoorEMDfM
import Derived.WalkKit
import Derived.ProofKit
import Derived.OpenShut
import Derived.ShutString
import Derived.ChangeOld
import Derived.Below
import Derived.Deep.DeepHandedRow
namespace Go.Proofs.YtdpabanajgegjaaGreatDoor
open Go Go.RowKit M V
set_option linter.unusedVariables false
theorem InflateSpoilt_walk(a0 a1:ByteArray)(a2:Int)(a3:Option Addr)(len3 cap3:Nat)(z3:List Int)(a4:Option Addr)(len4 cap4:Nat)(z4:List Int)(a5:Int)(W:World)(w0:a0.size≤maxLen)(w1:a1.size≤maxLen)(w2:(Lit.int .u8 a2).wf=true)(w3:IsRow .u16 W a3 len3 cap3 z3)(w4:IsRow .u8 W a4 len4 cap4 z4)(w5:(Lit.int .u16 a5).wf=true)(H:V.Tabs W):
 Calls Tryz.prog 3 #[.string a0,.string a1,.int .u8 a2,.slice a3 len3 cap3,.slice a4 len4 cap4,.int .u16 a5] W fun e w'=>e=.returned (.bool true)∧Below W.heap.size W w':=by
 obtain⟨n,rfl,hn⟩:=V.u8_nat' w2;obtain⟨m,rfl,hm⟩:=V.u16_nat' w5;exact I.ispoilt_law I.ifs a0 a1 n m a3 a4 len3 cap3 len4 cap4 (nat8 z3) (nat8 z4) W H hn hm w3.nat16.2 w4.nat8.2 w3.nat16.1 w4.nat8.1 (Nat.le_trans w3.most.1 w3.most.2) (Nat.le_trans w4.most.1 w4.most.2)
end Go.Proofs.YtdpabanajgegjaaGreatDoor
namespace Go.Proofs.YtdpabanajgegjaaGreatDoor.inflateSpoilt
open Go.ChangeShapes Go.WideShapes Go.ChangeAt Go.RowKit
open Go.ChangeMaps (open_string shut_string)
set_option linter.unusedVariables false
theorem own:ownKnob Tryz.prog.godebug=none:=by kernel_rfl
theorem laidOut:laidOutB Tryz.prog=true:=by kernel_rfl
set_option maxRecDepth 100000 in
/-- What the walk gives, for every argument and every world that holds the levels. -/
theorem contract(H:Type)(enc:TypeId×Value→H)(W:World)(base:Nat)(args:Array Value)(ds gs:List (DataW H))(before:List MemPlace)
 (hval0:∀ (j:Nat) t v,Tryz.f3.params[j]? =some t→args[j]? =some v→Value.okWide Tryz.prog W .any base t v)
 (hW:DataW.Whole enc Tryz.prog Tryz.f3.params.toList Rows.inflateSpoiltSpec.vars false W args.toList ds gs before) (hL:laidMetH Tryz.prog Rows.inflateSpoiltRow.laid W):
 Calls Tryz.prog 3 args W fun e W'=> ∃v,e=.returned v∧Rows.inflateSpoiltSpec.post enc Tryz.prog Tryz.f3 false true false false W args v W':=by
 have hval:∀ (j:Nat) t v,Tryz.f3.params[j]? =some t→args[j]? =some v→Value.okWide Tryz.prog W .any base t v:=hval0;have hW':=hW;obtain⟨p,q,hA0,hV,rfl,hfz,hnd⟩:=hW;have hA:DataW.TrodAll enc Tryz.prog W 0 (fun _=>true) true Tryz.f3.params.toList args.toList ds p:=hA0;rw[Tryz.params3] at hA hval;obtain⟨v0,vs0,d0,ds0,p0,q0,hargs,rfl,rfl,h0,r0⟩:=trodAll_cons hA;obtain⟨v1,vs1,d1,ds1,p1,q1,rfl,rfl,rfl,h1,r1⟩:=trodAll_cons r0;obtain⟨v2,vs2,d2,ds2,p2,q2,rfl,rfl,rfl,h2,r2⟩:=trodAll_cons r1;obtain⟨v3,vs3,d3,ds3,p3,q3,rfl,rfl,rfl,h3,r3⟩:=trodAll_cons r2;obtain⟨v4,vs4,d4,ds4,p4,q4,rfl,rfl,rfl,h4,r4⟩:=trodAll_cons r3;obtain⟨v5,vs5,d5,ds5,p5,q5,rfl,rfl,rfl,h5,r5⟩:=trodAll_cons r4;obtain⟨rfl,rfl,rfl⟩:=trodAll_nil r5;obtain rfl:args= #[v0,v1,v2,v3,v4,v5]:=by cases args;simp_all
 obtain⟨rfl,rfl⟩:=trodVars_none hV;obtain⟨a0,rfl,rfl,rfl,w0⟩:=open_string Tryz.underlying9 (hval 0 9 v0 rfl rfl) h0;obtain⟨a1,rfl,rfl,rfl,w1⟩:=open_string Tryz.underlying9 (hval 1 9 v1 rfl rfl) h1;obtain⟨a2,rfl,rfl,rfl,w2⟩:=open_int Tryz.underlying5 (hval 2 5 v2 rfl rfl) h2;obtain⟨a3,len3,cap3,rfl⟩:=okWide_slice Tryz.underlying22 (hval 3 22 v3 rfl rfl);have k3:=h3;have lt3:∀x∈p3,x.block<W.heap.size:=by obtain⟨m,hm⟩:=k3;exact DataW.trod_lt m _ _ _ hm
 obtain⟨z3,w3⟩:∃zs,IsRow .u16 W a3 len3 cap3 zs:=by
  obtain⟨fuel,hf⟩:=h3;rcases open_ints Tryz.underlying22 Tryz.underlying24 (by kernel_rfl) hf with⟨hcs,_⟩|⟨x,l,c,zs,hcs,_,hl,hm,hz,_,hcell,hwz⟩
  · simp[Value.cells] at hcs
    obtain⟨rfl,rfl,rfl⟩:=hcs;exact⟨[],.inl ⟨rfl,rfl,rfl,rfl⟩⟩
  · simp[Value.cells] at hcs
    obtain⟨rfl,rfl,rfl⟩:=hcs;exact⟨zs,.inr ⟨_,rfl,hl,hm,by simpa using hz,hcell,hwz⟩⟩
 obtain⟨a4,len4,cap4,rfl⟩:=okWide_slice Tryz.underlying23 (hval 4 23 v4 rfl rfl);have k4:=h4;have lt4:∀x∈p4,x.block<W.heap.size:=by obtain⟨m,hm⟩:=k4;exact DataW.trod_lt m _ _ _ hm
 obtain⟨z4,w4⟩:∃zs,IsRow .u8 W a4 len4 cap4 zs:=by
  obtain⟨fuel,hf⟩:=h4;rcases open_ints Tryz.underlying23 Tryz.underlying5 (by kernel_rfl) hf with⟨hcs,_⟩|⟨x,l,c,zs,hcs,_,hl,hm,hz,_,hcell,hwz⟩
  · simp[Value.cells] at hcs
    obtain⟨rfl,rfl,rfl⟩:=hcs;exact⟨[],.inl ⟨rfl,rfl,rfl,rfl⟩⟩
  · simp[Value.cells] at hcs
    obtain⟨rfl,rfl,rfl⟩:=hcs;exact⟨zs,.inr ⟨_,rfl,hl,hm,by simpa using hz,hcell,hwz⟩⟩
 obtain⟨a5,rfl,rfl,rfl,w5⟩:=open_int Tryz.underlying24 (hval 5 24 v5 rfl rfl) h5;clear hA0 hval0;refine(InflateSpoilt_walk a0 a1 a2 a3 len3 cap3 z3 a4 len4 cap4 z4 a5 W w0 w1 w2 w3 w4 w5 (V.tabs_of_laid rfl hL)).mono fun e W' ⟨he,bel⟩=> ?_
 subst he;exact⟨_,rfl,_,_,_,[],_,[],hW',trodAll_mk1 (shut_bool Tryz.underlying4 _),(trodAll_cons_mk (shut_string Tryz.underlying9 w0) (trodAll_cons_mk (shut_string Tryz.underlying9 w1) (trodAll_cons_mk (shut_int Tryz.underlying5 w2) (trodAll_cons_mk (Below.trod laidOut (by kernel_rfl) (of_decide_eq_true (by kernel_rfl)) k3 bel lt3) (trodAll_cons_mk (Below.trod laidOut (by kernel_rfl) (of_decide_eq_true (by kernel_rfl)) k4 bel lt4) (trodAll_cons_mk (shut_int Tryz.underlying24 w5) trodAll_mk0)))))),rfl,bel.frame _,fun h=>by cases h⟩
/-- a variable's block, holding cells -/
def lay(cs:Array Value):Obj→Obj
 |.cells _ t frozen=> .cells cs t frozen
 |o=>o
/-- A world for the witness: the settled one, the variables' blocks holding what their initialisers lay. -/
noncomputable def laidWorld(os:Os):World:=
 {World.holding Tryz.prog os ⟨#[],#[],[]⟩ with heap:=((((World.holding Tryz.prog os ⟨#[],#[],[]⟩).heap.modify 4 (lay #[.int .i64 1,.int .i64 0,.int .i64 1,.int .i64 0,.int .i64 1,.int .i64 0,.int .i64 1,.int .i64 0,.int .i64 1,.int .i64 0,.int .i64 1,.int .i64 0,.int .i64 1,.int .i64 0,.int .i64 1,.int .i64 0,.int .i64 1,.int .i64 0,.int .i64 1,.int .i64 0,.int .i64 1,.int .i64 0,.int .i64 1,.int .i64 0,.int .i64 1,.int .i64 0,.int .i64 1,.int .i64 0,.int .i64 1,.int .i64 0,.int .i64 1,.int .i64 0,.int .i64 3,.int .i64 2,.int .i64 3,.int .i64 3,.int .i64 11,.int .i64 7])).modify 2 (lay #[.int .i64 257,.int .i64 28,.int .i64 3,.int .i64 257,.int .i64 2])).modify 3 (lay #[.int .i64 0,.int .i64 30,.int .i64 1,.int .i64 32768,.int .i64 1]))}
theorem laid_met(os:Os):laidMet Tryz.prog Rows.inflateSpoiltRow.laid ((laidWorld os).forCall (fun _ _=>0) ⟨#[],#[Value.string ByteArray.empty,.string ByteArray.empty,.int .u8 0,.slice none 0 0,.slice none 0 0,.int .u16 0],[]⟩).memory:=
 laidMet_of_run' 8 (by kernel_rfl) (by kernel_rfl)
theorem reads(os:Os){H:Type}(enc:TypeId×Value→H):∃places,DataW.whole enc Tryz.prog ((laidWorld os).forCall (fun _ _=>0) ⟨#[],#[Value.string ByteArray.empty,.string ByteArray.empty,.int .u8 0,.slice none 0 0,.slice none 0 0,.int .u16 0],[]⟩).memory Tryz.f3.params.toList Rows.inflateSpoiltSpec.vars false (#[Value.string ByteArray.empty,.string ByteArray.empty,.int .u8 0,.slice none 0 0,.slice none 0 0,.int .u16 0]).toList 8=some ([.lit (.string []),.lit (.string []),.lit (.int .u8 0),.nil,.nil,.lit (.int .u16 0)],[],places):=
 ⟨[],by kernel_rfl⟩
set_option maxRecDepth 100000 in
theorem lifted(os:Os)(started:os.Started)(H:Type)(enc:TypeId×Value→H)(F:Stop.Interp):
 ReturnsInHanded {} Tryz.checked os 3 .any ((OpenSpec.ofChange Rows.inflateSpoiltSpec).preRow enc Tryz.prog Tryz.f3 Rows.inflateSpoiltRow.domain false Rows.inflateSpoiltRow.laid) (((OpenSpec.ofChange Rows.inflateSpoiltSpec).at F).post enc Tryz.prog Tryz.f3 false true false false):=by
 obtain⟨places,hx⟩:=reads os enc
 refine returnsInHanded_of_row (C:= Tryz.checked) (s:=OpenSpec.ofChange Rows.inflateSpoiltSpec) own started (by kernel_rfl) Tryz.func3
  (witness_row_at (enc:=enc) (C:= Tryz.checked) false (laidWorld os) #[Value.string ByteArray.empty,.string ByteArray.empty,.int .u8 0,.slice none 0 0,.slice none 0 0,.int .u16 0] rfl (by kernel_rfl) (by kernel_rfl) (by kernel_rfl)
   (OpenSpec.preRow_of_cond 8 hx (by kernel_rfl) (fun k hk=>by cases hk) (by kernel_rfl) (laid_met os))) ?_
 intro W base args ds gs before hval hW _ _ _ hL _ _;exact contract H enc W base args ds gs before hval hW hL
theorem said:Rows.InflateSpoiltSaid:=
 OpenClaim.holds_of_cond 3 Tryz.f3 rfl rfl rfl rfl rfl rfl rfl ⟨rfl,rfl,rfl,rfl,rfl⟩ rfl rfl rfl rfl rfl (by kernel_rfl) Tryz.func3 (by kernel_rfl)
  (of_decide_eq_true (by kernel_rfl)) (by unfold Func.isWrapper;first|(rw[if_pos (by decide+kernel)];kernel_rfl)|(rw[if_neg (by decide+kernel)];exact⟨rfl,rfl⟩))
  (fun os started H enc _ F=>by rw[OpenClaim.pre_eq_preRow];exact lifted os started H enc F)
/-- No parameter wants a stand-in; the program's own looks are off: what the card asks. -/
theorem plain(f:FuncId)(fn:Func)(hf: Tryz.pinned.checked.prog.funcNamed "platen/platenlaw16.InflateSpoilt" =some f)(hfn: Tryz.pinned.checked.prog.funcs[f]? =some fn):
 true= Tryz.pinned.checked.prog.looks []∧∀ (j:Nat) t,fn.params[j]? =some t→ Tryz.pinned.checked.prog.wantsStandIn t=false:=by
 obtain rfl:f= 3 :=Option.some.inj ((show Tryz.prog.funcNamed "platen/platenlaw16.InflateSpoilt" =some 3 by kernel_rfl).symm.trans hf)|>.symm
 obtain rfl:fn= Tryz.f3 :=(Option.some.inj (Tryz.func3.symm.trans hfn)).symm;refine⟨by kernel_rfl,fun j t ht=> ?_⟩;rw[Tryz.params3] at ht;have hm:t∈[9,9,5,22,23,24]:=by simpa using Array.mem_of_getElem? ht
 have hall:([9,9,5,22,23,24].all fun u=> !Tryz.prog.wantsStandIn u)=true:=by kernel_rfl
 exact(show Tryz.prog.wantsStandIn t=false by simpa using List.all_eq_true.1 hall t hm)
/-- The statement: the card. -/
theorem proved:Rows.InflateSpoiltCardSaid:=
 Claim7.holds_tied_plain_at .later [] _ _ _ _ said (fun _ h=>by cases h) (by kernel_rfl) (fun _ h=>by cases h) inflateSpoilt_row_tie rfl ⟨rfl,rfl⟩ (by kernel_rfl) rfl plain (by kernel_rfl)
#print axioms proved
end Go.Proofs.YtdpabanajgegjaaGreatDoor.inflateSpoilt
