/- The bytes that bits are, bit by bit. No program. -/
import Derived.Test.YtilogllncjlkfaaMathW
namespace Go.Proofs.Ytilogllncjlkfaa.M
open Go
set_option linter.unusedVariables false

/-- byte j of the lowest i bits -/
def byt (V i j : Nat) : Nat := V % 2 ^ i / 256 ^ j % 256

theorem byt_zero (V j : Nat) : byt V 0 j = 0 := by simp [byt, Nat.mod_one]
theorem byt_lt (V i j : Nat) : byt V i j < 256 := Nat.mod_lt _ (by decide)
theorem byt_all {V L : Nat} (hV : V < 2 ^ L) (j : Nat) : byt V L j = V / 256 ^ j % 256 := by
  unfold byt; rw [Nat.mod_eq_of_lt hV]
theorem mod_next (V i : Nat) : V % 2 ^ (i + 1) = V % 2 ^ i + V / 2 ^ i % 2 * 2 ^ i := by
  rw [mod_pow_succ, Nat.mul_comm]
theorem byt_other {V i j : Nat} (h : j ≠ i / 8) : byt V (i + 1) j = byt V i j := by
  unfold byt
  rw [mod_next]
  have hlt : V % 2 ^ i < 2 ^ i := Nat.mod_lt _ (Nat.two_pow_pos i)
  rcases Nat.lt_or_gt_of_ne h with g | g
  · rw [more_div (L := i) (by omega), show i - 8 * j = (i - 8 * j - 8) + 8 by omega, Nat.pow_add, ← Nat.mul_assoc]
    exact Nat.add_mul_mod_self_right _ _ _
  · have h2 : V % 2 ^ i + V / 2 ^ i % 2 * 2 ^ i < 2 ^ (i + 1) := more_lt hlt (s := 1) (by have := Nat.mod_lt (V / 2 ^ i) (show 0 < 2 by decide); omega)
    have h3 : 2 ^ (i + 1) ≤ 256 ^ j := by rw [p256]; exact pow_small (by omega)
    have h4 : 2 ^ i ≤ 2 ^ (i + 1) := pow_small (by omega)
    rw [Nat.div_eq_of_lt (by omega), Nat.div_eq_of_lt (by omega)]
theorem byt_here (V i : Nat) : byt V (i + 1) (i / 8) = byt V i (i / 8) + V / 2 ^ i % 2 * 2 ^ (i % 8) ∧ byt V i (i / 8) < 2 ^ (i % 8) := by
  unfold byt
  have hlt : V % 2 ^ i < 2 ^ i := Nat.mod_lt _ (Nat.two_pow_pos i)
  have hw := wait_lt (k := i / 8) hlt (by omega)
  have e : i - 8 * (i / 8) = i % 8 := by omega
  rw [e] at hw
  have hp : 2 ^ (i % 8) ≤ 2 ^ 7 := pow_small (by omega)
  have e7 : (2 : Nat) ^ 7 = 128 := by decide
  have hb : V / 2 ^ i % 2 < 2 := Nat.mod_lt _ (by decide)
  have hm : V / 2 ^ i % 2 * 2 ^ (i % 8) ≤ 1 * 2 ^ (i % 8) := Nat.mul_le_mul_right _ (by omega)
  rw [mod_next, more_div (by omega), e]
  generalize V / 2 ^ i % 2 * 2 ^ (i % 8) = x at *
  generalize V % 2 ^ i / 256 ^ (i / 8) = y at *
  rw [Nat.mod_eq_of_lt (show y < 256 by omega), Nat.mod_eq_of_lt (show y + x < 256 by omega)]
  exact ⟨rfl, hw⟩
theorem byt_bit1 {V i : Nat} (h : V / 2 ^ i % 2 = 1) : byt V (i + 1) (i / 8) = byt V i (i / 8) + 2 ^ (i % 8) := by
  have := (byt_here V i).1
  rw [h, Nat.one_mul] at this
  exact this
theorem byt_bit0 {V i : Nat} (h : V / 2 ^ i % 2 = 0) (j : Nat) : byt V (i + 1) j = byt V i j := by
  unfold byt
  rw [mod_next, h, Nat.zero_mul, Nat.add_zero]
end Go.Proofs.Ytilogllncjlkfaa.M
