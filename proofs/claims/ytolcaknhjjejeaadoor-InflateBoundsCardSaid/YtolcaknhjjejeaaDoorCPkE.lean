import Derived.Test.YtolcaknhjjejeaaDoorCThg
import Derived.Test.YtolcaknhjjejeaaDoorProg
import Derived.Test.YtolcaknhjjejeaaDoorCLay
import Derived.Test.YtolcaknhjjejeaaDoorCFrm
import Derived.WalkKit
import Derived.Lib.Hide
import Derived.RegionTactic
import Derived.BigRegion
import Derived.IntWalk
import Derived.Laws.OwnMore
import Derived.BigQuiet
import Derived.Deep.RegionHeld3
import Derived.Deep.QuietTactic
import Derived.Deep.OwnRows
import Derived.Laws.EntriesVeiled
namespace Go.Proofs.YtolcaknhjjejeaaDoor
open Go.RowKit M
set_option linter.unusedVariables false
def Br (w : World) (g n : Nat) (f : Nat → Nat) : Prop := w.rowIs g 5 n (fun i => .int .u8 (f i))
section
variable {w w' : World} {g n : Nat} {f f' : Nat → Nat}
theorem Br.lt (h : Br w g n f) : g < w.heap.size := World.rowIs.lt h
theorem Br.at' (h : Br w g n f) (q : w'.heap[g]? = w.heap[g]?) : Br w' g n f := World.rowIs.of_block h q
theorem Br.alloc (h : Br w g n f) (o : Obj) : Br (w.alloc o) g n f := World.rowIs.alloc h o
theorem Br.below (h : Br w g n f) {B : Nat} (hb : Below B w w') (hB : g < B) : Br w' g n f := h.at' (hb.block g hB)
theorem Br.cell (h : Br w g n f) {i : Nat} (hi : i < n) : w.cell? ⟨g, i, none⟩ = some (.int .u8 (f i)) := World.rowIs.cell h hi
theorem Br.frozen (h : Br w g n f) (i : Nat) : w.frozen? ⟨g, i, none⟩ = false := World.rowIs.frozen h i
theorem Br.set (h : Br w g n f) (i x : Nat) : Br (w.setCell ⟨g, i, none⟩ (.int .u8 x)) g n (fun j => if j = i then x else f j) :=
  World.rowIs.congr (World.rowIs.set h i (.int .u8 x)) (fun j hj => by by_cases e : j = i <;> simp [e])
theorem Br.made (w : World) (n : Nat) : Br (w.alloc (.cells (madeCells #[.int .u8 0] (n * 1)) 5)) w.heap.size n (fun _ => 0) := by
  rw [Nat.mul_one]
  exact World.rowIs_made w (.int .u8 0) n 5
theorem Br.nums (h : Br w g n f) : Nums w .u8 (some ⟨g, 0, none⟩) n (fun i => (f i : Int)) := fun hn =>
  ⟨g, 0, rfl, h.lt, fun i hi => by rw [Nat.zero_add]; exact h.cell hi⟩
end
end Go.Proofs.YtolcaknhjjejeaaDoor
