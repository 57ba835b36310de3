import Derived.Test.YtolcaknhjjejeaaDoorCBwG
import Derived.Test.YtolcaknhjjejeaaDoorProg
import Derived.Test.YtolcaknhjjejeaaDoorCLay
import Derived.WalkKit
import Derived.Lib.Hide
import Derived.IntWalk
import Derived.Lib.Strings
import Derived.Lib.Walk
import Derived.Lib.BitFns
import Derived.Test.YtolcaknhjjejeaaDoorCPkG
import Derived.Test.YtolcaknhjjejeaaDoorCMCnA
import Derived.Deep.QuietTactic
import Derived.BigQuiet
import Derived.ChangeSlices
import Derived.Deep.Slices
import Derived.BigRegion
import Derived.Test.YtolcaknhjjejeaaDoorCThg
import Derived.Test.YtolcaknhjjejeaaDoorCFrm
import Derived.RegionTactic
import Derived.Laws.OwnMore
import Derived.Deep.RegionHeld3
import Derived.Deep.OwnRows
import Derived.Test.YtolcaknhjjejeaaDoorCDrw
import Derived.Laws.Rows
import Derived.Test.YtolcaknhjjejeaaDoorCMCdR
import Derived.Deep.RegionWith
import Derived.Test.YtolcaknhjjejeaaDoorCMRns
namespace Go.Proofs.YtolcaknhjjejeaaDoor.V
open Go Go.RowKit M U
set_option linter.unusedVariables false
set_option linter.unusedSimpArgs false
theorem IsBys.of_br {w : World} {g n : Nat} {f : Nat → Nat} (h : Br w g n f) (hn : n ≤ 1000) (hf : ∀ i, f i ≤ 255) : IsBys w (some ⟨g, 0, none⟩) n ((List.range n).map f) :=
  ⟨by simp, by unfold maxLen; omega, fun x hx => by
    obtain ⟨i, _, rfl⟩ := List.mem_map.1 hx
    exact hf i, .inr ⟨g, 0, rfl, h.lt, fun i x hx => by
    have hi : i < n := by
      have := (List.getElem?_eq_some_iff.1 hx).1
      simpa using this
    rw [List.getElem?_map, List.getElem?_range hi] at hx
    simp only [Option.map_some, Option.some.injEq] at hx
    rw [← hx, Nat.zero_add]
    exact h.cell hi⟩⟩
end Go.Proofs.YtolcaknhjjejeaaDoor.V
