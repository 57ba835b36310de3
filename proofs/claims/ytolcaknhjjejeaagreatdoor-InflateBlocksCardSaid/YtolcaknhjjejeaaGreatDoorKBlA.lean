import Derived.Test.YtolcaknhjjejeaaGreatDoorKMBwQ
import Derived.Test.YtolcaknhjjejeaaGreatDoorKMBwK
import Derived.Test.YtolcaknhjjejeaaGreatDoorKMBwX
import Derived.Test.YtolcaknhjjejeaaGreatDoorKMMath
import Derived.Deep.OwnRows
import Derived.BigQuiet
import Derived.Deep.QuietTactic
import Derived.RegionTactic
import Derived.BigRegion
import Derived.ChangeAlike
import Derived.Deep.LoopGhost
import Derived.Deep.AppendLies
import Derived.Deep.RegionLaw
import Derived.WalkMore
import Derived.Test.YtolcaknhjjejeaaGreatDoorKMMathT
import Derived.Lib.AppendStr
import Derived.Laws.BytesString
import Derived.Laws.Cells
import Derived.WalkSpells
namespace Go.Proofs.YtolcaknhjjejeaaGreatDoor.V
open Go Go.RowKit M U
set_option linter.unusedVariables false
set_option linter.unusedSimpArgs false
theorem wgh_few (l1 l2 : Nat → Nat) (h1 : ∀ i, l1 i ≤ 15) (h2 : ∀ i, l2 i ≤ 15) : ∀ S : List Sy, (∀ y ∈ S, y.b ≤ 13) → wgh l1 l2 S ≤ 28 * S.length
  | [], _ => by simp [wgh]
  | y :: S, h => by
    have ih := wgh_few l1 l2 h1 h2 S (fun z hz => h z (List.mem_cons_of_mem _ hz))
    have hy := h y List.mem_cons_self
    have := h1 y.n
    have := h2 y.n
    simp only [wgh, List.length_cons]
    split <;> omega
end Go.Proofs.YtolcaknhjjejeaaGreatDoor.V
