import Derived.Below
import Derived.Laws.OwnMore
import Derived.Deep.AppendLies
import Derived.Deep.Draws
namespace Go.Proofs.YtolcaknhjjejeaaDoor.M
open Go Go.RowKit
set_option linter.unusedVariables false
def Nums (w : World) (k : IntKind) (A : Option Addr) (n : Nat) (f : Nat → Int) : Prop :=
  0 < n → ∃ b o, A = some ⟨b, o, none⟩ ∧ b < w.heap.size ∧ ∀ i, i < n → w.cell? ⟨b, o + i, none⟩ = some (.int k (f i))
def Cods (w : World) (A : Option Addr) (n : Nat) (f g : Nat → Nat) : Prop :=
  0 < n → ∃ b o, A = some ⟨b, o, none⟩ ∧ b < w.heap.size ∧ ∀ i, i < n → w.cell? ⟨b, o + i * 2, none⟩ = some (.int .u32 (f i)) ∧ w.cell? ⟨b, o + i * 2 + 1, none⟩ = some (.int .u8 (g i))
section
variable {w w' : World} {k : IntKind} {A : Option Addr} {n : Nat} {f f' : Nat → Int} {g h g' h' : Nat → Nat}
theorem Nums.below (H : Nums w k A n f) (hb : Below w.heap.size w w') : Nums w' k A n f := fun hn => by
  obtain ⟨b, o, e, hlt, hc⟩ := H hn
  exact ⟨b, o, e, Nat.lt_of_lt_of_le hlt hb.size, fun i hi => (hb.cell hlt).trans (hc i hi)⟩
theorem Cods.below (H : Cods w A n g h) (hb : Below w.heap.size w w') : Cods w' A n g h := fun hn => by
  obtain ⟨b, o, e, hlt, hc⟩ := H hn
  exact ⟨b, o, e, Nat.lt_of_lt_of_le hlt hb.size, fun i hi => ⟨(hb.cell hlt).trans (hc i hi).1, (hb.cell hlt).trans (hc i hi).2⟩⟩
theorem Cods.nil (w : World) (A : Option Addr) (g h : Nat → Nat) : Cods w A 0 g h := fun hn => absurd hn (by omega)
theorem Nums.congr (H : Nums w k A n f) (e : ∀ i, i < n → f i = f' i) : Nums w k A n f' := fun hn => by
  obtain ⟨b, o, e1, hlt, hc⟩ := H hn
  exact ⟨b, o, e1, hlt, fun i hi => by rw [hc i hi, e i hi]⟩
theorem below_drewN {B : Nat} (hb : Below B w w') (m : Nat) : Below B w (w'.drewN m) := ⟨hb.os, hb.tape, hb.output, hb.size, hb.block⟩
end
end Go.Proofs.YtolcaknhjjejeaaDoor.M
