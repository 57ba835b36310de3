/- Texts of one place, one behind the other: Math, QmB, Qwr, Qtr. -/
import Derived.Laws.Bits64b
import Derived.IntWalk
import Derived.Test.YtlanibgeafdefaaGreatDoorProg
import Derived.Lib.AppendStr
import Derived.Test.YtlanibgeafdefaaGreatDoorFrm
import Derived.WalkKit
import Derived.Lib.Hide
import Derived.Outline
namespace Go.Proofs.YtlanibgeafdefaaGreatDoor.M
open Go
set_option linter.unusedVariables false
def big : Nat := 18446744073709551616
def mk (k : Nat) : Nat := 2 ^ k - 1
def rv (n : Nat) : Nat → Nat
  | 0 => 0
  | k + 1 => 2 * rv n k + n / 2 ^ k % 2
def le (n : Nat) : Nat → List UInt8
  | 0 => []
  | k + 1 => UInt8.ofNat (n % 256) :: le (n / 256) k
theorem rv_lt (n k : Nat) : rv n k < 2 ^ k := by
  induction k with
  | zero => simp [rv]
  | succ k ih => simp only [rv, Nat.pow_succ]; omega
theorem div_pow (n k : Nat) : n / 2 ^ k / 2 = n / 2 ^ (k + 1) := by rw [Nat.div_div_eq_div_mul, Nat.pow_succ]
theorem wrap_nat (a : Nat) : IntKind.u64.wrap (a : Int) = ((a % 18446744073709551616 : Nat) : Int) := by rw [IntKind.wrap_u64]; omega
theorem wrap_nat_lt (a : Nat) (h : a < 18446744073709551616) : IntKind.u64.wrap (a : Int) = (a : Int) := by rw [wrap_nat]; congr 1; omega
theorem pow_lt64 {k : Nat} (h : k < 64) : 2 * 2 ^ k ≤ 18446744073709551616 := by
  have := Nat.pow_le_pow_right (n := 2) (by decide) h
  rw [Nat.pow_succ] at this
  have e : (2 : Nat) ^ 64 = 18446744073709551616 := by decide
  omega
theorem cast_pow2 (k : Nat) : (2 : Int) ^ k = ((2 ^ k : Nat) : Int) := by simp
theorem and_one (a : Nat) : a &&& 1 = a % 2 := by
  simp
theorem or_bit (t b : Nat) (hb : b < 2) : 2 * t ||| b = 2 * t + b := by
  have := Nat.two_pow_add_eq_or_of_lt (i := 1) (b := b) (by simpa using hb) t
  simpa using this.symm
theorem turn_step (n k : Nat) (hn : n < 18446744073709551616) (hk : k < 64) :
    bits .or .u64 (IntKind.u64.wrap ((rv n k : Int) * 2)) (bits .and .u64 ((n / 2 ^ k : Nat) : Int) 1) = (rv n (k + 1) : Int) := by
  have h1 := rv_lt n k
  have h2 := pow_lt64 hk
  have h3 : n / 2 ^ k ≤ n := Nat.div_le_self _ _
  have e1 : IntKind.u64.wrap ((rv n k : Int) * 2) = ((2 * rv n k : Nat) : Int) := by
    rw [show ((rv n k : Int) * 2) = ((2 * rv n k : Nat) : Int) by omega]
    exact wrap_nat_lt _ (by omega)
  have e2 : bits .and .u64 ((n / 2 ^ k : Nat) : Int) 1 = ((n / 2 ^ k % 2 : Nat) : Int) := by
    have := bits_and_u64_nat (n / 2 ^ k) 1 (by omega) (by decide)
    rw [and_one] at this
    exact this
  rw [e1, e2, bits_or_u64_nat _ _ (by omega) (by omega), or_bit _ _ (by omega)]
  rfl
theorem turn_step' (n k : Nat) (hn : n < big) (hk : k < 64) :
    bits .or .u64 (IntKind.u64.wrap ((rv n k : Int) * 2)) (bits .and .u64 ((n : Int) / 2 ^ k) 1) = (rv n (k + 1) : Int) := by
  have h := turn_step n k hn hk
  rw [Int.natCast_ediv, Int.natCast_pow] at h
  exact h
theorem div_step (n k : Nat) : (n : Int) / 2 ^ k / 2 = (n : Int) / 2 ^ (k + 1) := by
  rw [cast_pow2, cast_pow2, ← Int.natCast_ediv, ← Int.natCast_ediv, ← div_pow]
  rfl
end Go.Proofs.YtlanibgeafdefaaGreatDoor.M

namespace Go.Proofs.YtlanibgeafdefaaGreatDoor.M
open Go
set_option linter.unusedVariables false
def bys (N k : Nat) : List Int := (List.range k).map fun j => ((N / 256 ^ j % 256 : Nat) : Int)
end Go.Proofs.YtlanibgeafdefaaGreatDoor.M

namespace Go.Proofs.YtlanibgeafdefaaGreatDoor
open Go.RowKit M
theorem i64_bounds {a : Int} (h : (Lit.int .i64 a).wf = true) : -9223372036854775808 ≤ a ∧ a ≤ 9223372036854775807 := by
  simpa [Lit.wf, IntKind.min, IntKind.max, IntKind.signed, IntKind.bits] using h
theorem u8_bounds {a : Int} (h : (Lit.int .u8 a).wf = true) : 0 ≤ a ∧ a ≤ 255 := by simpa [Lit.wf, IntKind.min, IntKind.max, IntKind.signed, IntKind.bits] using h
end Go.Proofs.YtlanibgeafdefaaGreatDoor

namespace Go.Proofs.YtlanibgeafdefaaGreatDoor
open Go.RowKit M
theorem turn_great (N : Nat) (x : Int) (w : World) (hN : N < big) (hx : 64 < x) :
    Calls Tryz.prog 102 #[.int .u64 N, .int .i64 x] w fun e w' => e = .returned (.int .u64 (rv N 64)) ∧ w = w' := by
  go_enter Tryz.func102, Tryz.ntmps102
  go_wp2
  go_loop [0, 5, 8] (fun a t i => ∃ k : Nat, k ≤ 64 ∧ i = .int .i64 k ∧ a = .int .u64 ((N : Int) / 2 ^ k) ∧ t = .int .u64 (rv N k)) (fun _ _ i => 64 - (intOf i).toNat)
  case atStart => exact ⟨0, Nat.zero_le _, rfl, by simp, rfl⟩
  case round =>
    obtain ⟨k, hk, rfl, rfl, rfl⟩ := hrel
    by_cases hlt : k < 64
    · have hs := Lib.hid (turn_step' N k hN (by omega))
      go_wp2
      go_round
      case rel => exact ⟨k + 1, by omega, by go_num, congrArg (Value.int .u64) (div_step N k), congrArg (Value.int .u64) hs.out⟩
      case measure => simp [intOf]; omega
    · obtain rfl : k = 64 := by omega
      go_wp2
      go_ret
      exact ⟨rfl, rfl⟩
theorem turn_small (N : Nat) (x : Int) (w : World) (hN : N < big) (hx : x ≤ 64) :
    Calls Tryz.prog 102 #[.int .u64 N, .int .i64 x] w fun e w' => e = .returned (.int .u64 (rv N x.toNat)) ∧ w = w' := by
  go_enter Tryz.func102, Tryz.ntmps102
  go_wp2
  go_loop [0, 5, 8] (fun a t i => ∃ k : Nat, k ≤ x.toNat ∧ i = .int .i64 k ∧ a = .int .u64 ((N : Int) / 2 ^ k) ∧ t = .int .u64 (rv N k)) (fun _ _ i => x.toNat - (intOf i).toNat)
  case atStart => exact ⟨0, Nat.zero_le _, rfl, by simp, rfl⟩
  case round =>
    obtain ⟨k, hk, rfl, rfl, rfl⟩ := hrel
    by_cases hlt : k < x.toNat
    · have hs := Lib.hid (turn_step' N k hN (by omega))
      go_wp2
      go_round
      case rel => exact ⟨k + 1, by omega, by go_num, congrArg (Value.int .u64) (div_step N k), congrArg (Value.int .u64) hs.out⟩
      case measure => simp [intOf]; omega
    · obtain rfl : k = x.toNat := by omega
      go_wp2
      go_ret
      exact ⟨rfl, rfl⟩
theorem turn_any (n x : Int) (w : World) (h0 : 0 ≤ n) (hb : n.toNat < big) :
    Calls Tryz.prog 102 #[.int .u64 n, .int .i64 x] w fun e w' => e = .returned (.int .u64 (rv n.toNat (min x.toNat 64))) ∧ w = w' := by
  obtain ⟨N, rfl⟩ := Int.eq_ofNat_of_zero_le h0
  rw [Int.toNat_natCast] at hb ⊢
  by_cases hx : 64 < x
  · rw [show min x.toNat 64 = 64 by omega]
    exact turn_great N x w hb hx
  · rw [show min x.toNat 64 = x.toNat by omega]
    exact turn_small N x w hb (by omega)
end Go.Proofs.YtlanibgeafdefaaGreatDoor
