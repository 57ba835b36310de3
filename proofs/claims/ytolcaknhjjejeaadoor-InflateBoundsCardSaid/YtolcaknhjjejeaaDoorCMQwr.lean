/- Texts of one place, one behind the other: Qwr, Qtr. -/
import Derived.Test.YtolcaknhjjejeaaDoorProg
import Derived.Test.YtolcaknhjjejeaaDoorCQmW
import Derived.Test.YtolcaknhjjejeaaDoorCFrm
import Derived.WalkKit
import Derived.Lib.Hide
import Derived.Outline
namespace Go.Proofs.YtolcaknhjjejeaaDoor
open Go.RowKit M
theorem mask_low (x : Int) (w : World) (h : x ≤ 0) :
    Calls Tryd.prog 53 #[.int .i64 x] w fun e w' => e = .returned (.int .u64 0) ∧ w = w' := by
  go_enter Tryd.func53, Tryd.ntmps53
  go_wp2
  go_ret
  exact ⟨rfl, rfl⟩
theorem mask_high (x : Int) (w : World) (h : 0 < x) :
    Calls Tryd.prog 53 #[.int .i64 x] w fun e w' => e = .returned (.int .u64 (mk (min x.toNat 64))) ∧ w = w' := by
  have h0 : 0 ≤ x := by omega
  go_enter Tryd.func53, Tryd.ntmps53
  go_wp2
  go_ret
  exact ⟨congrArg (fun z => Ending.returned (.int .u64 z)) (mask_val _ (by omega)), rfl⟩
theorem up_none (n to : Int) (w : World) (h : n < 1 ∨ to < 1) :
    Calls Tryd.prog 36 #[.int .i64 n, .int .i64 to] w fun e w' => e = .returned (.int .i64 (up n to)) ∧ w = w' := by
  have hv := Lib.hid (show up n to = 0 by unfold up; rw [if_pos h])
  by_cases h1 : n < 1
  · clear h
    go_enter Tryd.func36, Tryd.ntmps36
    go_wp2
    go_ret
    exact ⟨congrArg (fun z => Ending.returned (.int .i64 z)) hv.out.symm, rfl⟩
  · have h2 : to < 1 := by omega
    have h3 : 1 ≤ n := by omega
    clear h h1
    go_enter Tryd.func36, Tryd.ntmps36
    go_wp2
    go_ret
    exact ⟨congrArg (fun z => Ending.returned (.int .i64 z)) hv.out.symm, rfl⟩
theorem up_some (n to : Int) (w : World) (h1 : 1 ≤ n) (h2 : 1 ≤ to) (h3 : n ≤ 9223372036854775807) (h4 : to ≤ 9223372036854775807) :
    Calls Tryd.prog 36 #[.int .i64 n, .int .i64 to] w fun e w' => e = .returned (.int .i64 (up n to)) ∧ w = w' := by
  have hw := up_wrap n to h1 h2 h3 h4
  have hq := up_mul_lt n to h1 h2
  have hv : up n to = if 4611686018427387904 < ((n - 1) / to + 1) * to then 0 else ((n - 1) / to + 1) * to := by unfold up; rw [if_neg (by omega)]
  by_cases h5 : 4611686018427387904 < ((n - 1) / to + 1) * to
  · rw [if_pos h5] at hv
    have HV := Lib.hid hv
    have hd : 4611686018427387904 < IntKind.u64.wrap (IntKind.u64.wrap ((n - 1) / to + 1) * to) := by rw [hw]; exact h5
    clear hv hw hq h5
    go_enter Tryd.func36, Tryd.ntmps36
    go_wp2
    go_ret
    exact ⟨congrArg (fun z => Ending.returned (.int .i64 z)) HV.out.symm, rfl⟩
  · rw [if_neg h5] at hv
    have HV : Hid (wrap64 (IntKind.u64.wrap (IntKind.u64.wrap ((n - 1) / to + 1) * to)) = up n to) := by
      rw [hw, hv]
      exact IntWalk.wrap64_in _ ⟨by omega, by omega⟩
    have hd : IntKind.u64.wrap (IntKind.u64.wrap ((n - 1) / to + 1) * to) ≤ 4611686018427387904 := by rw [hw]; omega
    clear hv hw hq h5
    go_enter Tryd.func36, Tryd.ntmps36
    go_wp2
    go_ret
    exact ⟨congrArg (fun z => Ending.returned (.int .i64 z)) HV.out, rfl⟩
theorem up_any (n to : Int) (w : World) (h3 : n ≤ 9223372036854775807) (h4 : to ≤ 9223372036854775807) :
    Calls Tryd.prog 36 #[.int .i64 n, .int .i64 to] w fun e w' => e = .returned (.int .i64 (up n to)) ∧ w = w' := by
  by_cases h : n < 1 ∨ to < 1
  · exact up_none n to w h
  · exact up_some n to w (by omega) (by omega) h3 h4
theorem mask_any (x : Int) (w : World) :
    Calls Tryd.prog 53 #[.int .i64 x] w fun e w' => e = .returned (.int .u64 (mk (min x.toNat 64))) ∧ w = w' := by
  by_cases h : x ≤ 0
  · rw [show min x.toNat 64 = 0 by omega]
    exact mask_low x w h
  · exact mask_high x w (by omega)
theorem mask_nat (K : Nat) (w : World) (hK : K ≤ 64) :
    Calls Tryd.prog 53 #[.int .i64 K] w fun e w' => e = .returned (.int .u64 (mk K)) ∧ w = w' := by
  have h := mask_any K w
  rwa [Int.toNat_natCast, show min K 64 = K by omega] at h
end Go.Proofs.YtolcaknhjjejeaaDoor

namespace Go.Proofs.YtolcaknhjjejeaaDoor
open Go.RowKit M
theorem turn_great (N : Nat) (x : Int) (w : World) (hN : N < big) (hx : 64 < x) :
    Calls Tryd.prog 77 #[.int .u64 N, .int .i64 x] w fun e w' => e = .returned (.int .u64 (rv N 64)) ∧ w = w' := by
  go_enter Tryd.func77, Tryd.ntmps77
  go_wp2
  go_loop [0, 5, 8] (fun a t i => ∃ k : Nat, k ≤ 64 ∧ i = .int .i64 k ∧ a = .int .u64 ((N : Int) / 2 ^ k) ∧ t = .int .u64 (rv N k)) (fun _ _ i => 64 - (intOf i).toNat)
  case atStart => exact ⟨0, Nat.zero_le _, rfl, by simp, rfl⟩
  case round =>
    obtain ⟨k, hk, rfl, rfl, rfl⟩ := hrel
    by_cases hlt : k < 64
    · have hs := Lib.hid (turn_step' N k hN (by omega))
      go_wp2
      go_round
      case rel => exact ⟨k + 1, by omega, by go_num, congrArg (Value.int .u64) (div_step N k), congrArg (Value.int .u64) hs.out⟩
      case measure => simp [intOf]; omega
    · obtain rfl : k = 64 := by omega
      go_wp2
      go_ret
      exact ⟨rfl, rfl⟩
theorem turn_small (N : Nat) (x : Int) (w : World) (hN : N < big) (hx : x ≤ 64) :
    Calls Tryd.prog 77 #[.int .u64 N, .int .i64 x] w fun e w' => e = .returned (.int .u64 (rv N x.toNat)) ∧ w = w' := by
  go_enter Tryd.func77, Tryd.ntmps77
  go_wp2
  go_loop [0, 5, 8] (fun a t i => ∃ k : Nat, k ≤ x.toNat ∧ i = .int .i64 k ∧ a = .int .u64 ((N : Int) / 2 ^ k) ∧ t = .int .u64 (rv N k)) (fun _ _ i => x.toNat - (intOf i).toNat)
  case atStart => exact ⟨0, Nat.zero_le _, rfl, by simp, rfl⟩
  case round =>
    obtain ⟨k, hk, rfl, rfl, rfl⟩ := hrel
    by_cases hlt : k < x.toNat
    · have hs := Lib.hid (turn_step' N k hN (by omega))
      go_wp2
      go_round
      case rel => exact ⟨k + 1, by omega, by go_num, congrArg (Value.int .u64) (div_step N k), congrArg (Value.int .u64) hs.out⟩
      case measure => simp [intOf]; omega
    · obtain rfl : k = x.toNat := by omega
      go_wp2
      go_ret
      exact ⟨rfl, rfl⟩
theorem turn_any (n x : Int) (w : World) (h0 : 0 ≤ n) (hb : n.toNat < big) :
    Calls Tryd.prog 77 #[.int .u64 n, .int .i64 x] w fun e w' => e = .returned (.int .u64 (rv n.toNat (min x.toNat 64))) ∧ w = w' := by
  obtain ⟨N, rfl⟩ := Int.eq_ofNat_of_zero_le h0
  rw [Int.toNat_natCast] at hb ⊢
  by_cases hx : 64 < x
  · rw [show min x.toNat 64 = 64 by omega]
    exact turn_great N x w hb hx
  · rw [show min x.toNat 64 = x.toNat by omega]
    exact turn_small N x w hb (by omega)
end Go.Proofs.YtolcaknhjjejeaaDoor
