import Derived.Test.YtlanibgeafdefaaGreatDoorQtA
import Derived.RegionTactic
import Derived.BigRegion
import Derived.ChangeAlike
import Derived.Deep.LoopGhost
import Derived.Deep.AppendLies
import Derived.Deep.RegionLaw
import Derived.WalkMore
import Derived.Test.YtlanibgeafdefaaGreatDoorFrm
import Derived.Lib.AppendStr
namespace Go.Proofs.YtlanibgeafdefaaGreatDoor
open Go.RowKit M
set_option linter.unusedVariables false
set_option maxRecDepth 1000000
variable {w w' : World} {B p k c V L : Nat} {ao : Option Addr} {most : Int} {S T : Nat → Prop}
theorem Wr.drewN (h : Wr w B p most ao c k V L) (n : Nat) : Wr (w.drewN n) B p most ao c k V L := h.keep ((Kept.refl NoB w).drewN n) (fun _ _ g => g)
def Did (w : World) (B p : Nat) (S : Nat → Prop) (most : Int) (r : Int × Nat × Nat) (e : Ending) (w' : World) : Prop :=
  e = .returned (.int .i64 r.1) ∧ ∃ S', Wt w' B p S' most r.2.1 r.2.2 ∧ Kept S w w' ∧ ∀ j, S' j → S j ∨ w.heap.size ≤ j
theorem Did.same (h : Wt w B p S most V L) (r : Int) (n : Nat) : Did w B p S most (r, V, L) (.returned (.int .i64 r)) (w.drewN n) :=
  ⟨rfl, S, h.keep ((Kept.refl NoB w).drewN n) (fun _ _ g => g), (Kept.refl S w).drewN n, fun _ g => .inl g⟩
theorem Did.from {w0 : World} {r : Int × Nat × Nat} {e : Ending} (hk : Kept NoB w w0) (h : Did w0 B p S most r e w') : Did w B p S most r e w' := by
  obtain ⟨he, S', h1, h2, h3⟩ := h
  exact ⟨he, S', h1, (hk.none S).trans h2 (fun j hj => .inl hj), fun j hj => (h3 j hj).imp id (fun g => Nat.le_trans hk.size g)⟩
end Go.Proofs.YtlanibgeafdefaaGreatDoor
