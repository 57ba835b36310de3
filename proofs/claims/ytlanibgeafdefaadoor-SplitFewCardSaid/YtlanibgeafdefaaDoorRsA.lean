import Derived.Test.YtlanibgeafdefaaDoorFrm
import Derived.Test.YtlanibgeafdefaaDoorMMaR
import Derived.Test.YtlanibgeafdefaaDoorChecked
import Derived.KernelRfl
import Derived.WalkKit
import Derived.Lib.Hide
import Derived.Outline
import Derived.Deep.RegionLaw
import Derived.RegionTactic
import Derived.BigRegion
import Derived.BigQuiet
import Derived.Deep.QuietTactic
import Derived.ChangeAlike
import Derived.Laws.Cells
import Derived.WalkSpells
import Derived.WalkMore
import Derived.IntWalk
namespace Go.Proofs.YtlanibgeafdefaaDoor
open Go Go.RowKit M
set_option linter.unusedVariables false
set_option linter.unusedSimpArgs false
def LLs (w : World) (g : Nat) : Prop := w.heap[g]? = some (.cells #[.int .i64 3, .int .i64 4, .int .i64 5, .int .i64 6, .int .i64 7, .int .i64 8, .int .i64 9, .int .i64 10, .int .i64 11, .int .i64 13, .int .i64 15, .int .i64 17, .int .i64 19, .int .i64 23, .int .i64 27, .int .i64 31, .int .i64 35, .int .i64 43, .int .i64 51, .int .i64 59, .int .i64 67, .int .i64 83, .int .i64 99, .int .i64 115, .int .i64 131, .int .i64 163, .int .i64 195, .int .i64 227, .int .i64 258] 3 (0, 0))
def DLs (w : World) (g : Nat) : Prop := w.heap[g]? = some (.cells #[.int .i64 1, .int .i64 2, .int .i64 3, .int .i64 4, .int .i64 5, .int .i64 7, .int .i64 9, .int .i64 13, .int .i64 17, .int .i64 25, .int .i64 33, .int .i64 49, .int .i64 65, .int .i64 97, .int .i64 129, .int .i64 193, .int .i64 257, .int .i64 385, .int .i64 513, .int .i64 769, .int .i64 1025, .int .i64 1537, .int .i64 2049, .int .i64 3073, .int .i64 4097, .int .i64 6145, .int .i64 8193, .int .i64 12289, .int .i64 16385, .int .i64 24577] 3 (0, 0))
theorem LLs.cell {w : World} {g : Nat} (h : LLs w g) {i : Nat} (hi : i ≤ 28) : w.cell? ⟨g, i, none⟩ = some (.int .i64 (ll i : Nat)) := by
  have e : (#[.int .i64 3, .int .i64 4, .int .i64 5, .int .i64 6, .int .i64 7, .int .i64 8, .int .i64 9, .int .i64 10, .int .i64 11, .int .i64 13, .int .i64 15, .int .i64 17, .int .i64 19, .int .i64 23, .int .i64 27, .int .i64 31, .int .i64 35, .int .i64 43, .int .i64 51, .int .i64 59, .int .i64 67, .int .i64 83, .int .i64 99, .int .i64 115, .int .i64 131, .int .i64 163, .int .i64 195, .int .i64 227, .int .i64 258] : Array Value) = (lls.map fun x : Nat => Value.int .i64 (x : Int)).toArray := rfl
  have hl : lls.length = 29 := rfl
  unfold LLs at h
  rw [e] at h
  simp only [World.cell?, h]
  rw [List.getElem?_toArray, List.getElem?_map, List.getElem?_eq_getElem (by rw [hl]; omega)]
  unfold ll
  rw [List.getD, List.getElem?_eq_getElem (by rw [hl]; omega)]
  rfl
theorem DLs.cell {w : World} {g : Nat} (h : DLs w g) {i : Nat} (hi : i ≤ 29) : w.cell? ⟨g, i, none⟩ = some (.int .i64 (dl i : Nat)) := by
  have e : (#[.int .i64 1, .int .i64 2, .int .i64 3, .int .i64 4, .int .i64 5, .int .i64 7, .int .i64 9, .int .i64 13, .int .i64 17, .int .i64 25, .int .i64 33, .int .i64 49, .int .i64 65, .int .i64 97, .int .i64 129, .int .i64 193, .int .i64 257, .int .i64 385, .int .i64 513, .int .i64 769, .int .i64 1025, .int .i64 1537, .int .i64 2049, .int .i64 3073, .int .i64 4097, .int .i64 6145, .int .i64 8193, .int .i64 12289, .int .i64 16385, .int .i64 24577] : Array Value) = (dls.map fun x : Nat => Value.int .i64 (x : Int)).toArray := rfl
  have hl : dls.length = 30 := rfl
  unfold DLs at h
  rw [e] at h
  simp only [World.cell?, h]
  rw [List.getElem?_toArray, List.getElem?_map, List.getElem?_eq_getElem (by rw [hl]; omega)]
  unfold dl
  rw [List.getD, List.getElem?_eq_getElem (by rw [hl]; omega)]
  rfl
end Go.Proofs.YtlanibgeafdefaaDoor
