/- Texts of one place, one behind the other: Qwr, Qtr. -/
import Derived.Test.YtkegkfmikplgdaaDoorProg
import Derived.Test.YtkegkfmikplgdaaDoorQmW
import Derived.Test.YtkegkfmikplgdaaDoorFrm
import Derived.WalkKit
import Derived.Lib.Hide
import Derived.Outline
/- What Mask and Up of package word answer, for any arguments that their kinds hold. Conditions: as each theorem names them. -/
namespace Go.Proofs.YtkegkfmikplgdaaDoor
open Go.RowKit M

theorem u64_bounds {a : Int} (h : (Lit.int .u64 a).wf = true) : 0 ≤ a ∧ a.toNat < big := by
  have g : 0 ≤ a ∧ a ≤ 18446744073709551615 := by simpa [Lit.wf, IntKind.min, IntKind.max, IntKind.signed, IntKind.bits] using h
  exact ⟨g.1, by unfold big; omega⟩
theorem i64_bounds {a : Int} (h : (Lit.int .i64 a).wf = true) : -9223372036854775808 ≤ a ∧ a ≤ 9223372036854775807 := by
  simpa [Lit.wf, IntKind.min, IntKind.max, IntKind.signed, IntKind.bits] using h
theorem u8_bounds {a : Int} (h : (Lit.int .u8 a).wf = true) : 0 ≤ a ∧ a ≤ 255 := by simpa [Lit.wf, IntKind.min, IntKind.max, IntKind.signed, IntKind.bits] using h
end Go.Proofs.YtkegkfmikplgdaaDoor

/- What Turn of package word answers, for any arguments that their kinds hold. Conditions: as each theorem names them. -/
namespace Go.Proofs.YtkegkfmikplgdaaDoor
open Go.RowKit M

theorem turn_great (N : Nat) (x : Int) (w : World) (hN : N < big) (hx : 64 < x) :
    Calls Tryd.prog 85 #[.int .u64 N, .int .i64 x] w fun e w' => e = .returned (.int .u64 (rv N 64)) ∧ w = w' := by
  go_enter Tryd.func85, Tryd.ntmps85
  go_wp2
  go_loop [0, 5, 8] (fun a t i => ∃ k : Nat, k ≤ 64 ∧ i = .int .i64 k ∧ a = .int .u64 ((N : Int) / 2 ^ k) ∧ t = .int .u64 (rv N k)) (fun _ _ i => 64 - (intOf i).toNat)
  case atStart => exact ⟨0, Nat.zero_le _, rfl, by simp, rfl⟩
  case round =>
    obtain ⟨k, hk, rfl, rfl, rfl⟩ := hrel
    by_cases hlt : k < 64
    · have hs := Lib.hid (turn_step' N k hN (by omega))
      go_wp2
      go_round
      case rel => exact ⟨k + 1, by omega, by go_num, congrArg (Value.int .u64) (div_step N k), congrArg (Value.int .u64) hs.out⟩
      case measure => simp [intOf]; omega
    · obtain rfl : k = 64 := by omega
      go_wp2
      go_ret
      exact ⟨rfl, rfl⟩

theorem turn_small (N : Nat) (x : Int) (w : World) (hN : N < big) (hx : x ≤ 64) :
    Calls Tryd.prog 85 #[.int .u64 N, .int .i64 x] w fun e w' => e = .returned (.int .u64 (rv N x.toNat)) ∧ w = w' := by
  go_enter Tryd.func85, Tryd.ntmps85
  go_wp2
  go_loop [0, 5, 8] (fun a t i => ∃ k : Nat, k ≤ x.toNat ∧ i = .int .i64 k ∧ a = .int .u64 ((N : Int) / 2 ^ k) ∧ t = .int .u64 (rv N k)) (fun _ _ i => x.toNat - (intOf i).toNat)
  case atStart => exact ⟨0, Nat.zero_le _, rfl, by simp, rfl⟩
  case round =>
    obtain ⟨k, hk, rfl, rfl, rfl⟩ := hrel
    by_cases hlt : k < x.toNat
    · have hs := Lib.hid (turn_step' N k hN (by omega))
      go_wp2
      go_round
      case rel => exact ⟨k + 1, by omega, by go_num, congrArg (Value.int .u64) (div_step N k), congrArg (Value.int .u64) hs.out⟩
      case measure => simp [intOf]; omega
    · obtain rfl : k = x.toNat := by omega
      go_wp2
      go_ret
      exact ⟨rfl, rfl⟩

theorem turn_any (n x : Int) (w : World) (h0 : 0 ≤ n) (hb : n.toNat < big) :
    Calls Tryd.prog 85 #[.int .u64 n, .int .i64 x] w fun e w' => e = .returned (.int .u64 (rv n.toNat (min x.toNat 64))) ∧ w = w' := by
  obtain ⟨N, rfl⟩ := Int.eq_ofNat_of_zero_le h0
  rw [Int.toNat_natCast] at hb ⊢
  by_cases hx : 64 < x
  · rw [show min x.toNat 64 = 64 by omega]
    exact turn_great N x w hb hx
  · rw [show min x.toNat 64 = x.toNat by omega]
    exact turn_small N x w hb (by omega)
end Go.Proofs.YtkegkfmikplgdaaDoor
