/- HuffNil and HuffAlike return true. Conditions: none. -/
import Derived.Test.YtnkkccieidlacaaHfH
import Derived.Test.YtnkkccieidlacaaIsr
namespace Go.Proofs.Ytnkkccieidlacaa
open Go.RowKit M
set_option linter.unusedVariables false
set_option linter.unusedSimpArgs false

theorem newD (w : World) : Calls Try.prog 9 #[.slice (some ⟨w.heap.size, 0, none⟩) 2 2, .int .i64 1] (w.alloc (.cells #[.int .u8 1, .int .u8 1] 5)) fun e w' =>
    ∃ T p m G N D, e = .returned (.tuple #[.pointer (some ⟨p, 0, none⟩), .int .i64 0]) ∧ w.heap.size ≤ p ∧ Hp w' T p m G N D (lt [1, 1]) 2 1 2 ∧ Below w.heap.size w w' :=
  newLit w [1, 1] 1 (by decide) (by decide) (by decide) (by decide) (by decide +kernel)
set_option maxRecDepth 1000000 in
set_option maxHeartbeats 1000000 in
theorem HuffNil_walk (a0 a1 : Int) (w : World) (w0 : (Lit.int .u64 a0).wf = true) (w1 : (Lit.int .i64 a1).wf = true) :
    Calls Try.prog 6 #[.int .u64 a0, .int .i64 a1] w fun e w' => e = .returned (.bool true) ∧ Below w.heap.size w w' := by
  clear w0 w1
  go_enter Try.func6, Try.ntmps6
  go_wp2_with fail
  refine (hlook_nil a0 a1 _).mono ?_; rintro e w2 ⟨rfl, rfl⟩
  go_wp2_with fail
  refine (rnew_any ⟨#[97]⟩ _ (B := w.heap.size) (by first | exact Nat.le_refl _ | simp)).mono ?_; rintro e w2 ⟨rfl, k2, r2, _⟩
  have K2 := Lib.hid k2
  have R2 := Lib.hid r2
  clear k2 r2
  go_wp2_with fail
  refine (hnext_nil w.heap.size w.heap.size 0 ⟨#[97]⟩ _ R2.out (by decide)).mono ?_; rintro e w3 ⟨rfl, r3, k3⟩
  have B3 := Lib.hid ((K2.out.below (Nat.le_refl _) (fun j hj => hj.elim)).trans (k3.below K2.out.size (fun j hj => by rw [hj]; exact Nat.le_refl _)))
  clear r3 k3
  go_wp2_with fail
  refine (newD _).mono ?_; rintro e w4 ⟨T, p, m, G, N, D, rfl, hp, H1, b1⟩
  have B4 := Lib.hid (B3.out.trans (b1.mono B3.out.size))
  clear b1 hp H1
  go_wp2_with fail
  refine (hnext_none _ _).mono ?_; rintro e w5 ⟨rfl, rfl⟩
  go_wp2_with fail
  refine (hcells_nil _).mono ?_; rintro e w5 ⟨rfl, rfl⟩
  go_wp2_with fail
  refine (alive_any _).mono ?_; rintro e w6 ⟨rfl, b6⟩
  have B6 := Lib.hid (B4.out.trans (b6.mono B4.out.size))
  clear b6
  go_wp2_with fail
  go_ret
  exact ⟨rfl, B6.out⟩
end Go.Proofs.Ytnkkccieidlacaa
