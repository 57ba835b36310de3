/- The plain mathematics of layer 1, on: bits turned about and back. No program. -/
import Derived.Test.YtnkkccieidlacaaMathB
namespace Go.Proofs.Ytnkkccieidlacaa.M
open Go
set_option linter.unusedVariables false

theorem rv_zero (k : Nat) : rv 0 k = 0 := by
  induction k with
  | zero => rfl
  | succ k ih => simp [rv, ih]
theorem rv_split (n a b : Nat) : rv n (a + b) = rv n a * 2 ^ b + rv (n / 2 ^ a) b := by
  induction b with
  | zero => simp [rv]
  | succ b ih =>
    show 2 * rv n (a + b) + n / 2 ^ (a + b) % 2 = rv n a * 2 ^ (b + 1) + (2 * rv (n / 2 ^ a) b + n / 2 ^ a / 2 ^ b % 2)
    rw [ih, Nat.div_div_eq_div_mul, ← Nat.pow_add, Nat.pow_succ, Nat.mul_add]
    have : 2 * (rv n a * 2 ^ b) = rv n a * (2 ^ b * 2) := by rw [Nat.mul_comm (2 ^ b) 2, ← Nat.mul_assoc, ← Nat.mul_assoc, Nat.mul_comm 2]
    omega
theorem rv_front (m k : Nat) : rv m (k + 1) = m % 2 * 2 ^ k + rv (m / 2) k := by
  have := rv_split m 1 k
  rw [Nat.add_comm 1 k] at this
  simpa [rv] using this
theorem mod_pow_succ (n k : Nat) : n % 2 ^ (k + 1) = n % 2 ^ k + 2 ^ k * (n / 2 ^ k % 2) := by
  rw [Nat.pow_succ, Nat.mod_mul]
/-- turned twice -/
theorem rv_rv (n k : Nat) : rv (rv n k) k = n % 2 ^ k := by
  induction k with
  | zero => simp [rv, Nat.mod_one]
  | succ k ih =>
    rw [rv_front]
    have e1 : rv n (k + 1) % 2 = n / 2 ^ k % 2 := by simp only [rv]; omega
    have e2 : rv n (k + 1) / 2 = rv n k := by simp only [rv]; omega
    rw [e1, e2, ih, mod_pow_succ, Nat.mul_comm]
    omega
/-- bits below k alone count -/
theorem rv_mod (n k m : Nat) (h : k ≤ m) : rv (n % 2 ^ m) k = rv n k := by
  induction k with
  | zero => rfl
  | succ k ih =>
    simp only [rv]
    rw [ih (by omega)]
    congr 1
    have h1 := Nat.testBit_mod_two_pow n m k
    rw [Nat.testBit_eq_decide_div_mod_eq, Nat.testBit_eq_decide_div_mod_eq] at h1
    have h2 : k < m := by omega
    simp only [h2, decide_true, Bool.true_and, decide_eq_decide] at h1
    omega
/-- the greatest bit, turned -/
theorem lg_nat (n : Nat) (h : n ≠ 0) : lg n = (n.log2 : Int) := by unfold lg; rw [if_neg h]
theorem log_lt {n k : Nat} (h : n ≠ 0) (hk : n < 2 ^ k) : n.log2 < k := (Nat.log2_lt h).2 hk
theorem log_div {n : Nat} (h : n ≠ 0) : n / 2 ^ n.log2 = 1 := by
  have h1 : 2 ^ n.log2 ≤ n := Nat.log2_self_le h
  have h2 : n < 2 ^ (n.log2 + 1) := Nat.lt_log2_self
  have hp : 0 < 2 ^ n.log2 := Nat.two_pow_pos _
  rw [Nat.pow_succ] at h2
  have h3 : 1 ≤ n / 2 ^ n.log2 := (Nat.le_div_iff_mul_le hp).2 (by omega)
  have h4 : n / 2 ^ n.log2 < 2 := Nat.div_lt_of_lt_mul (by omega)
  omega
theorem rv_top (low k : Nat) (h : low ≠ 0) (hk : low < 2 ^ k) : rv low k = rv low (low.log2 + 1) * 2 ^ (k - 1 - low.log2) := by
  have h1 := log_lt h hk
  have h2 : low < 2 ^ (low.log2 + 1) := Nat.lt_log2_self
  have e : k = (low.log2 + 1) + (k - 1 - low.log2) := by omega
  have h3 := rv_split low (low.log2 + 1) (k - 1 - low.log2)
  rw [← e, Nat.div_eq_of_lt h2, rv_zero, Nat.add_zero] at h3
  exact h3
theorem rv_top_shift (low k : Nat) (h : low ≠ 0) (hk : low < 2 ^ k) : rv low k / 2 ^ (k - 1 - low.log2) % 2 = 1 := by
  rw [rv_top low k h hk, Nat.mul_div_cancel _ (Nat.two_pow_pos _)]
  simp only [rv]
  rw [log_div h]
  omega
theorem rv_top_low (low k : Nat) (h : low ≠ 0) (hk : low < 2 ^ k) : rv low k % 2 ^ (k - 1 - low.log2) = 0 := by
  rw [rv_top low k h hk]
  exact Nat.mul_mod_left _ _

theorem and_mk (n k : Nat) : n &&& mk k = n % 2 ^ k := Nat.and_two_pow_sub_one_eq_mod n k
theorem mk_big (k : Nat) (h : k ≤ 64) : mk k < big := by
  have h1 := mk_lt k
  have h2 := pow_le64 h
  unfold big; omega
theorem rv_big (n k : Nat) (h : k ≤ 64) : rv n k < big := by
  have h1 := rv_lt n k
  have h2 := pow_le64 h
  unfold big; omega
theorem mod_big (n m : Nat) (h : n < big) : n % m < big := Nat.lt_of_le_of_lt (Nat.mod_le n m) h

/-- n & Mask(k) -/
theorem and_mask (n k : Nat) (hn : n < big) (hk : k ≤ 64) : bits .and .u64 (n : Int) (mk k : Int) = ((n % 2 ^ k : Nat) : Int) := by
  rw [bits_and_u64_nat n (mk k) hn (mk_big k hk), and_mk]

/-- t &^ Mask(k) -/
theorem andNot_mask (x k : Nat) (hx : x < 2 ^ k) (hk : k ≤ 64) : bits .andNot .u64 (x : Int) (mk k : Int) = 0 := by
  have hb : x < big := by have := pow_le64 hk; unfold big; omega
  have hm := mk_big k hk
  have h1 : (BitVec.ofInt 64 (x : Int)).toNat = x := by
    rw [BitVec.ofInt_natCast, BitVec.toNat_ofNat]; exact Nat.mod_eq_of_lt (by rw [← big_eq]; exact hb)
  have h2 : (BitVec.ofInt 64 (mk k : Int)).toNat = mk k := by
    rw [BitVec.ofInt_natCast, BitVec.toNat_ofNat]; exact Nat.mod_eq_of_lt (by rw [← big_eq]; exact hm)
  have h3 : (BitVec.ofInt 64 (x : Int) &&& ~~~ (BitVec.ofInt 64 (mk k : Int))) = 0#64 := by
    generalize BitVec.ofInt 64 (x : Int) = A at *
    generalize BitVec.ofInt 64 (mk k : Int) = B at *
    apply BitVec.eq_of_getLsbD_eq
    intro i hi
    have eA : A.getLsbD i = x.testBit i := by rw [← h1]; exact BitVec.testBit_toNat A
    have eB : B.getLsbD i = (mk k).testBit i := by rw [← h2]; exact BitVec.testBit_toNat B
    rw [BitVec.getLsbD_and, BitVec.getLsbD_not, eA, eB, BitVec.getLsbD_zero]
    by_cases hik : i < k
    · have : (mk k).testBit i = true := by
        unfold mk; rw [Nat.testBit_two_pow_sub_one]; simpa using hik
      simp [this]
    · have : x.testBit i = false := Nat.testBit_lt_two_pow (Nat.lt_of_lt_of_le hx (Nat.pow_le_pow_right (by decide) (by omega)))
      simp [this]
  show IntKind.u64.wrap ((BitVec.ofInt 64 (x : Int) &&& ~~~ (BitVec.ofInt 64 (mk k : Int))).toNat : Int) = 0
  rw [h3]; rfl

theorem up_zero (n to : Int) (h : n < 1 ∨ to < 1) : up n to = 0 := if_pos h
theorem up_pos (n to : Int) (h1 : 1 ≤ n) (h2 : 1 ≤ to) (h3 : n - 1 + to ≤ 4611686018427387904) : up n to = ((n - 1) / to + 1) * to := by
  have := up_mul_lt n to h1 h2
  unfold up
  rw [if_neg (by omega), if_neg (by omega)]
theorem up_facts (n to : Int) (h1 : 1 ≤ n) (h2 : 1 ≤ to) (h3 : n - 1 + to ≤ 4611686018427387904) : n ≤ up n to ∧ up n to - n < to ∧ up n to % to = 0 := by
  have g1 := up_mul_lt n to h1 h2
  have g2 := up_mul_ge n to h1 h2
  rw [up_pos n to h1 h2 h3]
  exact ⟨g2, by omega, Int.mul_emod_left _ _⟩
theorem up_range (n to : Int) : 0 ≤ up n to ∧ up n to ≤ 4611686018427387904 := by
  unfold up
  split
  · omega
  · rename_i h
    have g := up_mul_lt n to (by omega) (by omega)
    split <;> omega
theorem and_one_cast (n : Nat) (hn : n < big) (h : n % 2 = 1) : bits .and .u64 (n : Int) 1 = 1 := by
  have := bits_and_u64_nat n 1 hn (by decide)
  rw [and_one, h] at this
  exact this

theorem le_mod (n a : Nat) : le (n % 256 ^ a) a = le n a := by
  induction a generalizing n with
  | zero => rfl
  | succ a ih =>
    simp only [le]
    have h1 : n % 256 ^ (a + 1) % 256 = n % 256 := by
      rw [Nat.pow_succ', Nat.mod_mul_right_mod]
    have h2 : n % 256 ^ (a + 1) / 256 = n / 256 % 256 ^ a := by
      rw [Nat.pow_succ', Nat.mod_mul_right_div_self]
    rw [h1, h2, ih]
theorem le_add (n a b : Nat) : le n (a + b) = le n a ++ le (n / 256 ^ a) b := by
  induction a generalizing n with
  | zero => simp [le]
  | succ a ih =>
    rw [show a + 1 + b = (a + b) + 1 by omega]
    simp only [le, List.cons_append]
    rw [ih, Nat.div_div_eq_div_mul, Nat.pow_succ']
theorem bstr_append (a b : List UInt8) : bstr a ++ bstr b = bstr (a ++ b) := by
  apply ByteArray.ext
  rw [ByteArray.data_append]
  simp [bstr]
theorem bstr_cut (n a b : Nat) : bstr (le (n % 256 ^ a) a) ++ bstr (le (n / 256 ^ a) b) = bstr (le n (a + b)) := by
  rw [bstr_append, le_mod, le_add]

theorem bstr_size (l : List UInt8) : (bstr l).size = l.length := by simp [bstr, ByteArray.size]
theorem bstr_le_size (n k : Nat) : (bstr (le n k)).size = k := by rw [bstr_size, le_length]

end Go.Proofs.Ytnkkccieidlacaa.M
