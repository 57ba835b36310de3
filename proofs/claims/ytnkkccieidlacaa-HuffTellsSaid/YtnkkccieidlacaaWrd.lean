/- What Mask and Up of package word answer, for any arguments that their kinds hold. Conditions: as each theorem names them. -/
import Derived.Test.YtnkkccieidlacaaProg
import Derived.Test.YtnkkccieidlacaaMathW
import Derived.Test.YtnkkccieidlacaaFrm
import Derived.WalkKit
import Derived.Lib.Hide
import Derived.Outline
namespace Go.Proofs.Ytnkkccieidlacaa
open Go.RowKit M

theorem mask_low (x : Int) (w : World) (h : x ≤ 0) :
    Calls Try.prog 27 #[.int .i64 x] w fun e w' => e = .returned (.int .u64 0) ∧ w = w' := by
  go_enter Try.func27, Try.ntmps27
  go_wp2
  go_ret
  exact ⟨rfl, rfl⟩

theorem mask_high (x : Int) (w : World) (h : 0 < x) :
    Calls Try.prog 27 #[.int .i64 x] w fun e w' => e = .returned (.int .u64 (mk (min x.toNat 64))) ∧ w = w' := by
  have h0 : 0 ≤ x := by omega
  go_enter Try.func27, Try.ntmps27
  go_wp2
  go_ret
  exact ⟨congrArg (fun z => Ending.returned (.int .u64 z)) (mask_val _ (by omega)), rfl⟩

theorem up_none (n to : Int) (w : World) (h : n < 1 ∨ to < 1) :
    Calls Try.prog 57 #[.int .i64 n, .int .i64 to] w fun e w' => e = .returned (.int .i64 (up n to)) ∧ w = w' := by
  have hv := Lib.hid (show up n to = 0 by unfold up; rw [if_pos h])
  by_cases h1 : n < 1
  · clear h
    go_enter Try.func57, Try.ntmps57
    go_wp2
    go_ret
    exact ⟨congrArg (fun z => Ending.returned (.int .i64 z)) hv.out.symm, rfl⟩
  · have h2 : to < 1 := by omega
    have h3 : 1 ≤ n := by omega
    clear h h1
    go_enter Try.func57, Try.ntmps57
    go_wp2
    go_ret
    exact ⟨congrArg (fun z => Ending.returned (.int .i64 z)) hv.out.symm, rfl⟩

theorem up_some (n to : Int) (w : World) (h1 : 1 ≤ n) (h2 : 1 ≤ to) (h3 : n ≤ 9223372036854775807) (h4 : to ≤ 9223372036854775807) :
    Calls Try.prog 57 #[.int .i64 n, .int .i64 to] w fun e w' => e = .returned (.int .i64 (up n to)) ∧ w = w' := by
  have hw := up_wrap n to h1 h2 h3 h4
  have hq := up_mul_lt n to h1 h2
  have hv : up n to = if 4611686018427387904 < ((n - 1) / to + 1) * to then 0 else ((n - 1) / to + 1) * to := by unfold up; rw [if_neg (by omega)]
  by_cases h5 : 4611686018427387904 < ((n - 1) / to + 1) * to
  · rw [if_pos h5] at hv
    have HV := Lib.hid hv
    have hd : 4611686018427387904 < IntKind.u64.wrap (IntKind.u64.wrap ((n - 1) / to + 1) * to) := by rw [hw]; exact h5
    clear hv hw hq h5
    go_enter Try.func57, Try.ntmps57
    go_wp2
    go_ret
    exact ⟨congrArg (fun z => Ending.returned (.int .i64 z)) HV.out.symm, rfl⟩
  · rw [if_neg h5] at hv
    have HV : Hid (wrap64 (IntKind.u64.wrap (IntKind.u64.wrap ((n - 1) / to + 1) * to)) = up n to) := by
      rw [hw, hv]
      exact IntWalk.wrap64_in _ ⟨by omega, by omega⟩
    have hd : IntKind.u64.wrap (IntKind.u64.wrap ((n - 1) / to + 1) * to) ≤ 4611686018427387904 := by rw [hw]; omega
    clear hv hw hq h5
    go_enter Try.func57, Try.ntmps57
    go_wp2
    go_ret
    exact ⟨congrArg (fun z => Ending.returned (.int .i64 z)) HV.out, rfl⟩

theorem up_any (n to : Int) (w : World) (h3 : n ≤ 9223372036854775807) (h4 : to ≤ 9223372036854775807) :
    Calls Try.prog 57 #[.int .i64 n, .int .i64 to] w fun e w' => e = .returned (.int .i64 (up n to)) ∧ w = w' := by
  by_cases h : n < 1 ∨ to < 1
  · exact up_none n to w h
  · exact up_some n to w (by omega) (by omega) h3 h4

theorem mask_any (x : Int) (w : World) :
    Calls Try.prog 27 #[.int .i64 x] w fun e w' => e = .returned (.int .u64 (mk (min x.toNat 64))) ∧ w = w' := by
  by_cases h : x ≤ 0
  · rw [show min x.toNat 64 = 0 by omega]
    exact mask_low x w h
  · exact mask_high x w (by omega)

theorem mask_nat (K : Nat) (w : World) (hK : K ≤ 64) :
    Calls Try.prog 27 #[.int .i64 K] w fun e w' => e = .returned (.int .u64 (mk K)) ∧ w = w' := by
  have h := mask_any K w
  rwa [Int.toNat_natCast, show min K 64 = K by omega] at h

theorem u64_bounds {a : Int} (h : (Lit.int .u64 a).wf = true) : 0 ≤ a ∧ a.toNat < big := by
  have g : 0 ≤ a ∧ a ≤ 18446744073709551615 := by simpa [Lit.wf, IntKind.min, IntKind.max, IntKind.signed, IntKind.bits] using h
  exact ⟨g.1, by unfold big; omega⟩
theorem i64_bounds {a : Int} (h : (Lit.int .i64 a).wf = true) : -9223372036854775808 ≤ a ∧ a ≤ 9223372036854775807 := by
  simpa [Lit.wf, IntKind.min, IntKind.max, IntKind.signed, IntKind.bits] using h
theorem u8_bounds {a : Int} (h : (Lit.int .u8 a).wf = true) : 0 ≤ a ∧ a ≤ 255 := by simpa [Lit.wf, IntKind.min, IntKind.max, IntKind.signed, IntKind.bits] using h
end Go.Proofs.Ytnkkccieidlacaa
