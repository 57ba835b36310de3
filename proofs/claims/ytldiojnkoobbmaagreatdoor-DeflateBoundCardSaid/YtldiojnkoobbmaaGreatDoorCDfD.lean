import Derived.Test.YtldiojnkoobbmaaGreatDoorCMDfA
import Derived.Recover
import Derived.RecoverIn
import Derived.Defers
import Derived.Laws.Pointers
import Derived.TacticsInMore
import Derived.RegionIn
import Derived.Deep.RegionHeld
namespace Go.Proofs.YtldiojnkoobbmaaGreatDoor.V
open Go Go.RowKit M U
set_option linter.unusedVariables false
set_option linter.unusedSimpArgs false
set_option maxRecDepth 1000000
theorem eql_refusal (w : World) : (binOp .eql 20 (.iface 55 (.agg #[.int .i64 4])) .nilIface).run Tryz.prog w = .ok (.bool false) w := by kernel_rfl
theorem is_refusal (w : World) : (Instr.typeAssert (.iface 55 (.agg #[.int .i64 4])) 20 55 true).run Tryz.prog w = .ok (.tuple #[.agg #[.int .i64 4], .bool true]) w := by kernel_rfl
theorem catch_idle (n E : Nat) (w : World) :
    CallsDIn Fence.wide n Tryz.prog 21 #[.pointer (some ⟨E, 0, none⟩)] .returning w fun e u' w' => e = .returned (.tuple #[]) ∧ u' = .returning ∧ w' = w := by
  refine callsDIn_of_wpSIn Tryz.func21 rfl (by trivial) fun c₀ cs hu => ?_
  apply wpSIn_seq
  apply wpSIn_region
  simp [wpOpsSIn, go_sem, recoverD, hu, Tryz.ntmps21, Exit.thenS]
  refine wpSIn_of_wpIn rfl ?_
  gi_wp2
  cases c₀
  simp_all [bodyPostS, results, Tryz.results21]
set_option maxHeartbeats 2000000 in
theorem catch_panic (n E : Nat) (y : Value) (older : List PanicEntry) (w : World) (hE : w.cell? ⟨E, 0, none⟩ = some y) (fE : w.frozen? ⟨E, 0, none⟩ = false) :
    CallsDIn Fence.wide n Tryz.prog 21 #[.pointer (some ⟨E, 0, none⟩)] (.panicking ({ v := .iface 55 (.agg #[.int .i64 4]), recovered := false } :: older)) w fun e u' w' =>
      e = .returned (.tuple #[]) ∧ u' = .panicking ({ v := .iface 55 (.agg #[.int .i64 4]), recovered := true } :: older) ∧ w' = (w.alloc (.cells #[.int .i64 4] 55)).setCell ⟨E, 0, none⟩ (.int .i64 4) := by
  have hE1 := World.block_lt_of_cell? _ _ hE
  have bw : Below w.heap.size w (w.alloc (.cells #[.int .i64 4] 55)) := (Below.refl _ _).alloc (Nat.le_refl _) _
  have hN := heap_alloc_new w (.cells #[.int .i64 4] 55)
  obtain ⟨w1, hw1⟩ : ∃ w1, w.alloc (.cells #[.int .i64 4] 55) = w1 := ⟨_, rfl⟩
  rw [hw1] at bw hN
  have e1 : w1.cell? ⟨E, 0, none⟩ = some y := (bw.cell (p := ⟨E, 0, none⟩) hE1).trans hE
  have e2 : w1.frozen? ⟨E, 0, none⟩ = false := (bw.frozen (p := ⟨E, 0, none⟩) hE1).trans fE
  have e3 : w1.cell? ⟨w.heap.size, 0, none⟩ = some (.int .i64 4) := by simp [World.cell?, hN]
  refine callsDIn_of_wpSIn Tryz.func21 rfl (by trivial) fun c₀ cs hu => ?_
  apply wpSIn_seq
  apply wpSIn_region
  simp [wpOpsSIn, go_sem, recoverD, hu, Tryz.ntmps21, Exit.thenS]
  refine wpSIn_of_wpIn rfl ?_
  rw [show (#[Value.pointer (some { block := E, off := 0 })] ++ (Array.replicate 11 undef).setIfInBounds 3 (Value.iface 55 (Value.agg #[.int .i64 4])) : Array Value) = #[Value.pointer (some { block := E, off := 0 }), undef, undef, undef, .iface 55 (.agg #[.int .i64 4]), undef, undef, undef, undef, undef, undef, undef] from rfl]
  have n1 := eql_refusal
  have n2 := is_refusal
  gi_wp2_with fail
  simp [bodyPostS, results, Tryz.results21]
end Go.Proofs.YtldiojnkoobbmaaGreatDoor.V
