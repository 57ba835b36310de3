import Derived.Test.YtdpabanajgegjaaGreatDoorEMSaA
import Derived.Test.YtdpabanajgegjaaGreatDoorEMYsD
import Derived.LaidSub
namespace Go.Proofs.YtdpabanajgegjaaGreatDoor.V
open Go Go.RowKit
def Tabs(w:World):Prop:=U.Tab w∧Y.Tab w
theorem Tabs.keep{w w':World}(h:Tabs w)(hb:Below w.heap.size w w'):Tabs w':=⟨h.1.below hb (Nat.le_refl _),h.2.below hb (Nat.le_refl _)⟩
theorem tabs_of_laid{W:World}{laid:List (String×DataW Unit)}(hl:laid=[("platen/runs.says",Rows.laid_platen_runs_says),("platen/symbol.lengths",Rows.laid_platen_symbol_lengths),("platen/symbol.distances",Rows.laid_platen_symbol_distances)])(h:laidMet Tryz.prog laid W):Tabs W:=by
 subst hl;exact⟨U.tab_of_laid rfl (h.filter fun x=>x.1== "platen/runs.says"),Y.tab_of_laid rfl (h.filter fun x=>x.1 != "platen/runs.says")⟩
end Go.Proofs.YtdpabanajgegjaaGreatDoor.V
