import Derived.Test.YtolcaknhjjejeaaDoorCMMath
import Derived.Lib.AppendStr
namespace Go.Proofs.YtolcaknhjjejeaaDoor.M
open Go
set_option linter.unusedVariables false
theorem bys_of_le (V k : Nat) : bys V k = (le V k).map fun b => (b.toNat : Int) := by
  rw [le_eq]
  unfold bys
  rw [List.map_map]
  apply List.map_congr_left
  intro j _
  simp
end Go.Proofs.YtolcaknhjjejeaaDoor.M
