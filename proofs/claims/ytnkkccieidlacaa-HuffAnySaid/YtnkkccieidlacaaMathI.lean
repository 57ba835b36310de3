/- Codes written one behind the other, and read again, in plain numbers. No program. -/
import Derived.Test.YtnkkccieidlacaaMathG
import Derived.Test.YtnkkccieidlacaaMathW
import Derived.Test.YtnkkccieidlacaaMathP
namespace Go.Proofs.Ytnkkccieidlacaa.M
set_option linter.unusedVariables false

/-- so many bits have the codes of the first k of the symbols xs -/
def bL (l : Nat → Nat) (xs : Nat → Nat) : Nat → Nat
  | 0 => 0
  | k + 1 => bL l xs k + l (xs k)
/-- .. and which they are -/
def bV (l : Nat → Nat) (n : Nat) (xs : Nat → Nat) : Nat → Nat
  | 0 => 0
  | k + 1 => bV l n xs k + rc l n (xs k) * 2 ^ bL l xs k
theorem bL_congr {l xs ys : Nat → Nat} : ∀ k, (∀ i, i < k → xs i = ys i) → bL l xs k = bL l ys k
  | 0, _ => rfl
  | k + 1, h => by simp only [bL]; rw [bL_congr k (fun i hi => h i (by omega)), h k (by omega)]
theorem bV_congr {l xs ys : Nat → Nat} {n : Nat} : ∀ k, (∀ i, i < k → xs i = ys i) → bV l n xs k = bV l n ys k
  | 0, _ => rfl
  | k + 1, h => by simp only [bV]; rw [bV_congr k (fun i hi => h i (by omega)), h k (by omega), bL_congr k (fun i hi => h i (by omega))]
theorem bL_mono (l xs : Nat → Nat) {j k : Nat} (h : j ≤ k) : bL l xs j ≤ bL l xs k := by
  induction k with
  | zero => obtain rfl : j = 0 := by omega
            exact Nat.le_refl _
  | succ k ih =>
    by_cases e : j = k + 1
    · subst e; exact Nat.le_refl _
    · have := ih (by omega)
      simp only [bL]; omega
theorem bL_le {l xs : Nat → Nat} : ∀ k, (∀ i, i < k → l (xs i) ≤ 15) → bL l xs k ≤ 15 * k
  | 0, _ => by simp [bL]
  | k + 1, h => by
    have h1 := bL_le k (fun i hi => h i (by omega))
    have h2 := h k (by omega)
    simp only [bL]; omega
theorem bV_lt (l : Nat → Nat) (n : Nat) (xs : Nat → Nat) : ∀ k, bV l n xs k < 2 ^ bL l xs k
  | 0 => by simp [bV, bL]
  | k + 1 => by
    simp only [bV, bL]
    exact more_lt (bV_lt l n xs k) (rc_lt l n (xs k))
theorem bV_mod (l : Nat → Nat) (n : Nat) (xs : Nat → Nat) {j : Nat} : ∀ k, j ≤ k → bV l n xs k % 2 ^ bL l xs j = bV l n xs j
  | 0, h => by
    obtain rfl : j = 0 := by omega
    exact Nat.mod_eq_of_lt (bV_lt l n xs 0)
  | k + 1, h => by
    by_cases e : j = k + 1
    · subst e; exact Nat.mod_eq_of_lt (bV_lt l n xs (k + 1))
    · have ih := bV_mod l n xs k (show j ≤ k by omega)
      have h1 := mod_self_more (bV l n xs k) (rc l n (xs k)) (bL l xs k) (bL l xs k) (bV_lt l n xs k) (Nat.le_refl _)
      have h2 : (bV l n xs (k + 1)) % 2 ^ bL l xs k = bV l n xs k := h1
      rw [← h2, mod_mod_le (bL_mono l xs (show j ≤ k by omega))] at ih
      exact ih
/-- bits of a row, from a on -/
theorem part_mod {V a b : Nat} : V / 2 ^ a % 2 ^ b = V % 2 ^ (a + b) / 2 ^ a := by rw [Nat.pow_add, Nat.mod_mul_right_div_self]
/-- the j-th code stands there -/
theorem bV_code {l : Nat → Nat} {n j k : Nat} {xs : Nat → Nat} {V : Nat} (hj : j < k) (hV : V % 2 ^ bL l xs k = bV l n xs k) : V / 2 ^ bL l xs j % 2 ^ l (xs j) = rc l n (xs j) := by
  have h1 : V % 2 ^ bL l xs (j + 1) = bV l n xs (j + 1) := by
    rw [← bV_mod l n xs k hj, ← hV, mod_mod_le (bL_mono l xs hj)]
  rw [part_mod, show bL l xs j + l (xs j) = bL l xs (j + 1) from rfl, h1]
  show (bV l n xs j + rc l n (xs j) * 2 ^ bL l xs j) / 2 ^ bL l xs j = _
  rw [Nat.add_mul_div_right _ _ (Nat.two_pow_pos _), Nat.div_eq_of_lt (bV_lt l n xs j), Nat.zero_add]
/-- a number behind the codes -/
theorem bV_behind {l : Nat → Nat} {n k b z : Nat} {xs : Nat → Nat} (hb : b < 2 ^ z) : (bV l n xs k + b * 2 ^ bL l xs k) % 2 ^ bL l xs k = bV l n xs k ∧ (bV l n xs k + b * 2 ^ bL l xs k) / 2 ^ bL l xs k % 2 ^ z = b := by
  refine ⟨mod_self_more _ _ _ _ (bV_lt l n xs k) (Nat.le_refl _), ?_⟩
  rw [Nat.add_mul_div_right _ _ (Nat.two_pow_pos _), Nat.div_eq_of_lt (bV_lt l n xs k), Nat.zero_add, Nat.mod_eq_of_lt hb]
end Go.Proofs.Ytnkkccieidlacaa.M
