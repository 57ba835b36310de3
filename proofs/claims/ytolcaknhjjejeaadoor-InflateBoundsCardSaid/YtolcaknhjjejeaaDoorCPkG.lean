import Derived.Test.YtolcaknhjjejeaaDoorCPkE
import Derived.Test.YtolcaknhjjejeaaDoorProg
import Derived.Test.YtolcaknhjjejeaaDoorCLay
import Derived.WalkKit
import Derived.Lib.Hide
import Derived.IntWalk
import Derived.Lib.Strings
import Derived.Lib.Walk
import Derived.Lib.BitFns
namespace Go.Proofs.YtolcaknhjjejeaaDoor
open Go.RowKit M
set_option linter.unusedVariables false
theorem madeByte (w : World) (n : Nat) (hn : n ≤ 400) :
    (Instr.makeSlice 34 (.int .i64 (n : Int)) (.int .i64 (n : Int))).run Tryd.prog w = .ok (.slice (some ⟨w.heap.size, 0, none⟩) n n) (w.alloc (.cells (madeCells #[.int .u8 0] (n * 1)) 5)) :=
  run_made w Tryd.underlying34 byteInfo (by decide) n n (Nat.le_refl _) (by omega)
end Go.Proofs.YtolcaknhjjejeaaDoor
