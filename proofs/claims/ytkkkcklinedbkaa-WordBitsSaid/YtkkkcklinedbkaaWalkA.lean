/- What isSize, fits, Mask and Turn of package word answer, for any arguments that their kinds hold. Conditions: as each theorem names them. -/
import Derived.Test.YtkkkcklinedbkaaProg
import Derived.Test.YtkkkcklinedbkaaMath
import Derived.WalkKit
import Derived.Lib.Hide
import Derived.Outline
namespace Go.Proofs.Ytkkkcklinedbkaa
open Go.RowKit M

theorem isSize_yes (x : Int) (w : World) (h1 : 1 ≤ x) (h2 : x ≤ 8) :
    Calls Try.prog 24 #[.int .i64 x] w fun e w' => e = .returned (.bool true) ∧ w = w' := by
  go_enter Try.func24, Try.ntmps24
  go_wp2
  go_ret
  exact ⟨rfl, rfl⟩

theorem isSize_no (x : Int) (w : World) (h : ¬ (1 ≤ x ∧ x ≤ 8)) :
    Calls Try.prog 24 #[.int .i64 x] w fun e w' => e = .returned (.bool false) ∧ w = w' := by
  by_cases h1 : 1 ≤ x
  · have h2 : decide (x ≤ 8) = false := by simp; omega
    clear h
    go_enter Try.func24, Try.ntmps24
    go_wp2
    go_ret
    exact ⟨rfl, rfl⟩
  · have h3 : x < 1 := by omega
    clear h
    go_enter Try.func24, Try.ntmps24
    go_wp2
    go_ret
    exact ⟨rfl, rfl⟩

theorem mask_low (x : Int) (w : World) (h : x ≤ 0) :
    Calls Try.prog 16 #[.int .i64 x] w fun e w' => e = .returned (.int .u64 0) ∧ w = w' := by
  go_enter Try.func16, Try.ntmps16
  go_wp2
  go_ret
  exact ⟨rfl, rfl⟩

theorem mask_high (x : Int) (w : World) (h : 0 < x) :
    Calls Try.prog 16 #[.int .i64 x] w fun e w' => e = .returned (.int .u64 (mk (min x.toNat 64))) ∧ w = w' := by
  have h0 : 0 ≤ x := by omega
  go_enter Try.func16, Try.ntmps16
  go_wp2
  go_ret
  exact ⟨congrArg (fun z => Ending.returned (.int .u64 z)) (mask_val _ (by omega)), rfl⟩

theorem fits_any (n x : Int) (w : World) (h0 : 0 ≤ n) (h1 : 1 ≤ x) (h8 : x ≤ 8) :
    Calls Try.prog 25 #[.int .u64 n, .int .i64 x] w fun e w' => e = .returned (.bool (decide (n.toNat < 256 ^ x.toNat))) ∧ w = w' := by
  have h3 : 0 ≤ 8 * x := by omega
  go_enter Try.func25, Try.ntmps25
  go_wp2
  go_ret
  exact ⟨congrArg (fun z => Ending.returned (.bool z)) (fits_val n x h0 (by omega)), rfl⟩

theorem turn_great (N : Nat) (x : Int) (w : World) (hN : N < big) (hx : 64 < x) :
    Calls Try.prog 18 #[.int .u64 N, .int .i64 x] w fun e w' => e = .returned (.int .u64 (rv N 64)) ∧ w = w' := by
  go_enter Try.func18, Try.ntmps18
  go_wp2
  go_loop [0, 5, 8] (fun a t i => ∃ k : Nat, k ≤ 64 ∧ i = .int .i64 k ∧ a = .int .u64 ((N : Int) / 2 ^ k) ∧ t = .int .u64 (rv N k)) (fun _ _ i => 64 - (intOf i).toNat)
  case atStart => exact ⟨0, Nat.zero_le _, rfl, by simp, rfl⟩
  case round =>
    obtain ⟨k, hk, rfl, rfl, rfl⟩ := hrel
    by_cases hlt : k < 64
    · have hs := Lib.hid (turn_step' N k hN (by omega))
      go_wp2
      go_round
      case rel => exact ⟨k + 1, by omega, by go_num, congrArg (Value.int .u64) (div_step N k), congrArg (Value.int .u64) hs.out⟩
      case measure => simp [intOf]; omega
    · obtain rfl : k = 64 := by omega
      go_wp2
      go_ret
      exact ⟨rfl, rfl⟩

theorem turn_small (N : Nat) (x : Int) (w : World) (hN : N < big) (hx : x ≤ 64) :
    Calls Try.prog 18 #[.int .u64 N, .int .i64 x] w fun e w' => e = .returned (.int .u64 (rv N x.toNat)) ∧ w = w' := by
  go_enter Try.func18, Try.ntmps18
  go_wp2
  go_loop [0, 5, 8] (fun a t i => ∃ k : Nat, k ≤ x.toNat ∧ i = .int .i64 k ∧ a = .int .u64 ((N : Int) / 2 ^ k) ∧ t = .int .u64 (rv N k)) (fun _ _ i => x.toNat - (intOf i).toNat)
  case atStart => exact ⟨0, Nat.zero_le _, rfl, by simp, rfl⟩
  case round =>
    obtain ⟨k, hk, rfl, rfl, rfl⟩ := hrel
    by_cases hlt : k < x.toNat
    · have hs := Lib.hid (turn_step' N k hN (by omega))
      go_wp2
      go_round
      case rel => exact ⟨k + 1, by omega, by go_num, congrArg (Value.int .u64) (div_step N k), congrArg (Value.int .u64) hs.out⟩
      case measure => simp [intOf]; omega
    · obtain rfl : k = x.toNat := by omega
      go_wp2
      go_ret
      exact ⟨rfl, rfl⟩

theorem turn_any (n x : Int) (w : World) (h0 : 0 ≤ n) (hb : n.toNat < big) :
    Calls Try.prog 18 #[.int .u64 n, .int .i64 x] w fun e w' => e = .returned (.int .u64 (rv n.toNat (min x.toNat 64))) ∧ w = w' := by
  obtain ⟨N, rfl⟩ := Int.eq_ofNat_of_zero_le h0
  rw [Int.toNat_natCast] at hb ⊢
  by_cases hx : 64 < x
  · rw [show min x.toNat 64 = 64 by omega]
    exact turn_great N x w hb hx
  · rw [show min x.toNat 64 = x.toNat by omega]
    exact turn_small N x w hb (by omega)
end Go.Proofs.Ytkkkcklinedbkaa
