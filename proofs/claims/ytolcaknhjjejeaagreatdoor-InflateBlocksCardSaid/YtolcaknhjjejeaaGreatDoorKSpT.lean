import Derived.Test.YtolcaknhjjejeaaGreatDoorKMBwQ
import Derived.Test.YtolcaknhjjejeaaGreatDoorKMT9Tok
import Derived.Test.YtolcaknhjjejeaaGreatDoorKSpO
import Derived.Deep.RegionHeld3
import Derived.Maps.AppendAt
import Derived.Maps.RangeWalk
import Derived.Maps.OwnSet
import Derived.DeepKeys4
namespace Go.Proofs.YtolcaknhjjejeaaGreatDoor.V
open Go Go.RowKit M U
set_option linter.unusedVariables false
set_option linter.unusedSimpArgs false
set_option maxRecDepth 1000000
def pk (a b c d : Nat) : Lit := .string (keyBytes [.int .i64 a, .int .i64 b, .int .i64 c, .int .i64 d])
section
variable {w w' : World} {m N : Nat} {K : Nat → Nat → Nat → Nat → Nat × Nat}
end
end Go.Proofs.YtolcaknhjjejeaaGreatDoor.V
