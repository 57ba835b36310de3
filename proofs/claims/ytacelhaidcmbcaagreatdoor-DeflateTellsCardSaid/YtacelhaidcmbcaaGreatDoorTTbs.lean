import Derived.Test.YtacelhaidcmbcaaGreatDoorTMSaA
import Derived.Test.YtacelhaidcmbcaaGreatDoorTMYsA
import Derived.LaidSub
namespace Go.Proofs.YtacelhaidcmbcaaGreatDoor.V
open Go Go.RowKit
def z5p(w:World):Prop:=U.Tab w∧Y.Tab w
theorem z5p.keep{w w':World}(h:z5p w)(hb:Below w.heap.size w w'):z5p w':=⟨h.1.below hb qR,h.2.below hb qR⟩
theorem z5z{W:World}{laid:List (String×DataW Unit)}(hl:laid=[("platen/runs.says",Rows.laid_platen_runs_says),("platen/symbol.lengths",Rows.laid_platen_symbol_lengths),("platen/symbol.distances",Rows.laid_platen_symbol_distances)])(h:laidMet Tryz.prog laid W):z5p W:=by
 subst hl;exact⟨U.tab_of_laid rfl (h.filter fun x=>x.1== "platen/runs.says"),Y.tab_of_laid rfl (h.filter fun x=>x.1 != "platen/runs.says")⟩
end Go.Proofs.YtacelhaidcmbcaaGreatDoor.V
