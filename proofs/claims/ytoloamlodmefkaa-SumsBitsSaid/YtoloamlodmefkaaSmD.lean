/- The small known cases of layer 4, alive, return true in any world. Conditions: none. -/
import Derived.Test.YtoloamlodmefkaaSmC
namespace Go.Proofs.Ytoloamlodmefkaa
open Go.RowKit M
set_option linter.unusedVariables false

set_option maxHeartbeats 1000000 in
set_option maxRecDepth 1000000 in
theorem alive_any (w : World) : Calls Try.prog 8 #[] w fun e w' => e = .returned (.bool true) ∧ Below w.heap.size w w' := by
  have T1 := Lib.hid (show adl 1 ⟨#[87, 105, 107, 105, 112, 101, 100, 105, 97]⟩ = 300286872 by decide +kernel)
  have T2 := Lib.hid (show crc ⟨#[49, 50, 51, 52, 53, 54, 55, 56, 57]⟩ = 3421780262 by decide +kernel)
  have T3 := Lib.hid (show adl 1 ⟨#[97]⟩ = 6422626 by decide +kernel)
  have T4 := Lib.hid (show adl 1 ⟨#[98]⟩ = 6488163 by decide +kernel)
  have T5 := Lib.hid (show join 6422626 6488163 1 = 19267780 by decide +kernel)
  have T6 := Lib.hid (show adl 1 ⟨#[97, 98]⟩ = 19267780 by decide +kernel)
  have T7 := Lib.hid (show adl 1 ⟨#[]⟩ = 1 by decide +kernel)
  have T8 := Lib.hid (show crc ⟨#[]⟩ = 0 by decide +kernel)
  have hi : ∀ w, (Instr.index 25 (.agg (TV st)) (.int .i64 1)).run Try.prog w = .ok (.int .u32 1996959894) w := fun w => by
    have h := idx256 w st 1 (by decide)
    rw [show st 1 = 1996959894 by decide +kernel] at h
    exact h
  go_enter Try.func8, Try.ntmps8
  go_wp2_with fail
  refine (adler_any _ _ (by decide)).mono ?_; rintro e w' ⟨rfl, rfl⟩
  rw [T1.out]
  go_wp2_with fail
  refine (crc_any _ _ (by decide)).mono ?_; rintro e w1 ⟨rfl, b1⟩
  rw [T2.out]
  go_wp2_with fail
  refine (adler_any _ _ (by decide)).mono ?_; rintro e w' ⟨rfl, rfl⟩
  rw [T3.out]
  go_wp2_with fail
  refine (adler_any _ _ (by decide)).mono ?_; rintro e w' ⟨rfl, rfl⟩
  rw [T4.out]
  go_wp2_with fail
  refine (join_any 6422626 6488163 1 _ (by decide) (by decide) (by decide)).mono ?_; rintro e w' ⟨rfl, rfl⟩
  rw [T5.out]
  go_wp2_with fail
  refine (adler_any _ _ (by decide)).mono ?_; rintro e w' ⟨rfl, rfl⟩
  rw [T6.out]
  go_wp2_with fail
  refine (adler_any _ _ (by decide)).mono ?_; rintro e w' ⟨rfl, rfl⟩
  rw [T7.out]
  go_wp2_with fail
  refine (crc_any _ _ (by decide)).mono ?_; rintro e w2 ⟨rfl, b2⟩
  rw [T8.out]
  go_wp2_with fail
  refine (table_any _).mono ?_; rintro e w3 ⟨rfl, b3⟩
  go_wp2_with fail
  go_ret
  exact ⟨rfl, (b1.trans (b2.mono b1.size)).trans (b3.mono (Nat.le_trans b1.size b2.size))⟩

end Go.Proofs.Ytoloamlodmefkaa
