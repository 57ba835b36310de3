/- RunsBack returns true, over what the program's functions answer: the law. Conditions: as each theorem names them. -/
import Derived.Test.YtogbohompffcbaaDoorLwB
namespace Go.Proofs.YtogbohompffcbaaDoor.U
open Go Go.RowKit M
set_option linter.unusedVariables false
set_option linter.unusedSimpArgs false

set_option maxRecDepth 1000000 in
theorem back_heavy {T : World → Prop} (C : Cts T) (A : Option Addr) (n c : Nat) (x : Int) (W : World) (H : T W) (hn : n ≤ maxLen) (hv : 2000 < n) :
    Calls Tryd.prog 4 #[.slice A n c, .int .u16 x] W fun e w' => e = .returned (.bool true) ∧ Below W.heap.size W w' := by
  have HV := Lib.hid (heavy_any A none n c 0 0 W hn (by unfold maxLen; omega))
  rw [decide_eq_true (Or.inl hv)] at HV
  have HW := Lib.hid (works_any C W H)
  clear C H hv
  go_enter Tryd.func4, Tryd.ntmps4
  go_wp2_with (first
    | (go_at_call 6; (with_reducible refine HV.out.mono ?_); rintro e w0 ⟨rfl, rfl⟩)
    | (go_at_call 7; (with_reducible refine HW.out.mono ?_); rintro e w7 ⟨rfl, b7⟩; have B7 := Lib.hid b7; clear b7))
  go_ret
  exact ⟨rfl, B7.out⟩
theorem back_law {T : World → Prop} (C : Cts T) (A : Option Addr) (n c : Nat) (l : List Nat) (x : Int) (W : World) (H : T W) (hl : IsBys W A n l) (hx : 0 ≤ x ∧ x ≤ 65535) :
    Calls Tryd.prog 4 #[.slice A n c, .int .u16 x] W fun e w' => e = .returned (.bool true) ∧ Below W.heap.size W w' := by
  by_cases hv : 2000 < n
  · exact back_heavy C A n c x W H hl.most hv
  · obtain ⟨a, rfl⟩ : ∃ a : Nat, x = a := ⟨x.toNat, by omega⟩
    exact back_gen C A n c l a W H hl (by omega) (by omega)
end Go.Proofs.YtogbohompffcbaaDoor.U
