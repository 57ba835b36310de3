import Derived.Test.YtolcaknhjjejeaaDoorCMRns
import Derived.Test.YtolcaknhjjejeaaDoorCPkG
import Derived.BigRegion
namespace Go.Proofs.YtolcaknhjjejeaaDoor.V
open Go Go.RowKit M U
set_option linter.unusedVariables false
set_option linter.unusedSimpArgs false
def two (a b : Value) (i : Nat) : Value := if i = 0 then a else b
def C2 (w : World) (g : Nat) (a b : Value) : Prop := w.rowIs g 51 2 (two a b)
section
variable {w w' : World} {g : Nat} {a b : Value}
theorem C2.new (w : World) (a b : Value) : C2 (w.alloc (.cells #[a, b] 51)) w.heap.size a b := ⟨#[a, b], heap_alloc_new _ _, rfl, fun i hi => by
  match i, hi with
  | 0, _ => rfl
  | 1, _ => rfl⟩
theorem C2.at0 (h : C2 w g a b) : w.cell? ⟨g, 0, none⟩ = some a := World.rowIs.cell h (i := 0) (by omega)
theorem C2.at1 (h : C2 w g a b) : w.cell? ⟨g, 1, none⟩ = some b := World.rowIs.cell h (i := 1) (by omega)
theorem C2.frozen (h : C2 w g a b) (i : Nat) : w.frozen? ⟨g, i, none⟩ = false := World.rowIs.frozen h i
theorem C2.put (h : C2 w g a b) (c d : Value) : C2 ((w.setCell ⟨g, 0, none⟩ c).setCell ⟨g, 1, none⟩ d) g c d :=
  World.rowIs.congr (World.rowIs.set (World.rowIs.set h 0 c) 1 d) (fun j hj => by
    match j, hj with
    | 0, _ => rfl
    | 1, _ => rfl)
theorem C2.row (h : C2 w g a b) : w.heap[g]? = some (.cells #[a, b] 51 (0, 0)) := by
  obtain ⟨c, h1, h2, h3⟩ := h
  have : c = #[a, b] := by
    apply Array.ext_getElem?
    intro i
    match i with
    | 0 => exact h3 0 (by omega)
    | 1 => exact h3 1 (by omega)
    | i + 2 => rw [Array.getElem?_eq_none (by omega), Array.getElem?_eq_none (by simp)]
  rw [h1, this]
end
theorem codesSize : (Tryd.prog.info? 51).map (fun i => i.size) = some 2 := by kernel_rfl
def fxl (j : Nat) : Nat := if j < 144 then 8 else if j < 256 then 9 else if j < 280 then 7 else 8
section
variable {w0 w : World} {cb la da : Nat} {f g : Nat → Nat}
end
end Go.Proofs.YtolcaknhjjejeaaDoor.V
