/- Texts of one place, one behind the other: CnD, SmL. -/
import Derived.Test.YtfochecpdfmfbaaGreatDoorMCnA
import Derived.Deep.QuietTactic
import Derived.BigQuiet
/- What counts weigh by lengths: a sum (tpl6 XCnD without what a seat of layer 13 lacks). No program. -/
namespace Go.Proofs.YtfochecpdfmfbaaGreatDoor
open Go.RowKit M
set_option linter.unusedVariables false

end Go.Proofs.YtfochecpdfmfbaaGreatDoor

/- What the document SameLens answers. Conditions: as each theorem names them. -/
namespace Go.Proofs.YtfochecpdfmfbaaGreatDoor
open Go.RowKit M
set_option linter.unusedVariables false

end Go.Proofs.YtfochecpdfmfbaaGreatDoor
