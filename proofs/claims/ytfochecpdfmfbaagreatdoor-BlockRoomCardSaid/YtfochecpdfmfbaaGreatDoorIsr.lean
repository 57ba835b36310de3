/- A slice of whole numbers that came in, read as numbers. No program. -/
import Derived.Test.YtfochecpdfmfbaaGreatDoorLay
import Derived.ChangeSlices
import Derived.Deep.Slices
namespace Go.Proofs.YtfochecpdfmfbaaGreatDoor
open Go Go.RowKit M
open Go.ChangeShapes Go.WideShapes
set_option linter.unusedVariables false

/-- A slice of integers that came in. -/
def IsRow (k : IntKind) (w : World) (a : Option Addr) (len cap : Nat) (zs : List Int) : Prop :=
  (a = none ∧ len = 0 ∧ cap = 0 ∧ zs = []) ∨
  ∃ ad, a = some ad ∧ len ≤ cap ∧ cap ≤ maxLen ∧ zs.length = cap ∧ (∀ i, i < zs.length → w.cell? (ad.add i) = some (.int k (zs.getD i 0))) ∧ (∀ n ∈ zs, (Lit.int k n).wf = true)

theorem iadd_at (b o j : Nat) : (⟨b, o, none⟩ : Addr).add j = ⟨b, o + j, none⟩ := by
  unfold Addr.add
  split
  · rename_i h; subst h; rfl
  · rfl

section
variable {k : IntKind} {w : World} {a : Option Addr} {len cap : Nat} {zs : List Int}
theorem IsRow.most (h : IsRow k w a len cap zs) : len ≤ cap ∧ cap ≤ maxLen := by
  rcases h with ⟨_, h1, h2, _⟩ | ⟨ad, _, h1, h2, _⟩
  · rw [h1, h2]; exact ⟨Nat.le_refl _, by decide⟩
  · exact ⟨h1, h2⟩
theorem IsRow.nums (h : IsRow k w a len cap zs) : Nums w k a len (fun i => zs.getD i 0) := fun hn => by
  rcases h with ⟨_, h1, _, _⟩ | ⟨ad, rfl, h1, h2, h3, h4, h5⟩
  · omega
  · have c0 := h4 0 (by omega)
    have hsp : ad.spot = none := by
      have := World.cell?_spot c0
      rw [Addr.add, if_pos rfl] at this
      exact this
    obtain ⟨b, o, sp⟩ := ad
    obtain rfl : sp = none := hsp
    refine ⟨b, o, rfl, ?_, fun i hi => ?_⟩
    · have := World.block_lt_of_cell? _ _ c0
      rwa [iadd_at] at this
    · rw [← iadd_at]; exact h4 i (by omega)
theorem IsRow.wf (h : IsRow k w a len cap zs) (h0 : (Lit.int k 0).wf = true) (i : Nat) : (Lit.int k (zs.getD i 0)).wf = true := by
  rw [List.getD]
  rcases h with ⟨_, _, _, rfl⟩ | ⟨ad, rfl, h1, h2, h3, h4, h5⟩
  · simpa using h0
  · cases e : zs[i]? with
    | none => simpa using h0
    | some x => exact h5 x (List.mem_of_getElem? e)
end
end Go.Proofs.YtfochecpdfmfbaaGreatDoor
