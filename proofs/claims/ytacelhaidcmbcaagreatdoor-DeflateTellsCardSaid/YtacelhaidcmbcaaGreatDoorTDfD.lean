import Derived.Test.YtacelhaidcmbcaaGreatDoorTMDfA
import Derived.Recover
import Derived.RecoverIn
import Derived.Defers
import Derived.Laws.Pointers
import Derived.TacticsInMore
import Derived.RegionIn
import Derived.Deep.RegionHeld
set_option maxHeartbeats 8000000
set_option maxRecDepth 1000000
namespace Go.Proofs.YtacelhaidcmbcaaGreatDoor.V
open Go Go.RowKit M U
set_option linter.unusedVariables false
set_option linter.unusedSimpArgs false
theorem z71(w:World):(binOp .eql 20 (.iface 52 (.agg #[.int .i64 4])) .nilIface).run Tryz.prog w=.ok (.bool false) w:=by kernel_rfl
theorem z9d(w:World):(Instr.typeAssert (.iface 52 (.agg #[.int .i64 4])) 20 52 true).run Tryz.prog w=.ok (.tuple #[.agg #[.int .i64 4],.bool true]) w:=by kernel_rfl
theorem z9q(n E:Nat)(w:World):
 CallsDIn Fence.wide n Tryz.prog 19 #[.pointer (some ⟨E,0,none⟩)] .returning w fun e u' w'=>e=.returned (.tuple #[])∧u'=.returning∧w'=w:=by
 refine callsDIn_of_wpSIn Tryz.func19 rfl (by trivial) fun c₀ cs hu=> ?_
 apply wpSIn_seq
 apply wpSIn_region
 simp[wpOpsSIn,go_sem,recoverD,hu,Tryz.ntmps19,Exit.thenS];refine wpSIn_of_wpIn rfl ?_
 gi_wp2;cases c₀
 simp_all [bodyPostS,results,Tryz.results19]
theorem z7b(n E:Nat)(y:Value)(older:List PanicEntry)(w:World)(hE:w.cell? ⟨E,0,none⟩=some y)(fE:w.frozen? ⟨E,0,none⟩=false):
 CallsDIn Fence.wide n Tryz.prog 19 #[.pointer (some ⟨E,0,none⟩)] (.panicking ({v:=.iface 52 (.agg #[.int .i64 4]),recovered:=false}::older)) w fun e u' w'=>
  e=.returned (.tuple #[])∧u'=.panicking ({v:=.iface 52 (.agg #[.int .i64 4]),recovered:=true}::older)∧w'=(w.alloc (.cells #[.int .i64 4] 52)).setCell ⟨E,0,none⟩ (.int .i64 4):=by
 have hE1:=qB hE;have bw:Below w.heap.size w (w.alloc (.cells #[.int .i64 4] 52)):=qL;have hN:=heap_alloc_new w (.cells #[.int .i64 4] 52);obtain⟨w1,hw1⟩:∃w1,w.alloc (.cells #[.int .i64 4] 52)=w1:=⟨_,rfl⟩
 rw[hw1] at bw hN;have e1:w1.cell? ⟨E,0,none⟩=some y:=(bw.cell (p:=⟨E,0,none⟩) hE1).trans hE;have e2:w1.frozen? ⟨E,0,none⟩=false:=(bw.frozen (p:=⟨E,0,none⟩) hE1).trans fE;have e3:w1.cell? ⟨w.heap.size,0,none⟩=some (.int .i64 4):=by simp[World.cell?,hN]
 refine callsDIn_of_wpSIn Tryz.func19 rfl (by trivial) fun c₀ cs hu=> ?_
 apply wpSIn_seq
 apply wpSIn_region
 simp[wpOpsSIn,go_sem,recoverD,hu,Tryz.ntmps19,Exit.thenS];refine wpSIn_of_wpIn rfl ?_
 rw[show(#[Value.pointer (some {block:=E,off:=0})]++(Array.replicate 11 undef).setIfInBounds 3 (Value.iface 52 (Value.agg #[.int .i64 4])):Array Value)= #[Value.pointer (some {block:=E,off:=0}),undef,undef,undef,.iface 52 (.agg #[.int .i64 4]),undef,undef,undef,undef,undef,undef,undef] from rfl];have n1:=z71;have n2:=z9d
 gi_wp2_with fail
 simp[bodyPostS,results,Tryz.results19]
end Go.Proofs.YtacelhaidcmbcaaGreatDoor.V
