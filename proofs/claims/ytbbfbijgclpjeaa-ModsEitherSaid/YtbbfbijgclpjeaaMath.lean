/- The plain mathematics of layer 1: bytes of numbers, bits turned about, greatest bits, multiples. No program. -/
import Derived.Laws.Bits64b
import Derived.IntWalk
namespace Go.Proofs.Ytbbfbijgclpjeaa.M
open Go
set_option linter.unusedVariables false

/-- 2^64, behind a name that the walk does not open -/
def big : Nat := 18446744073709551616
theorem big_eq : big = 2 ^ 64 := by decide

/-- the number with k bits, all 1 -/
def mk (k : Nat) : Nat := 2 ^ k - 1
/-- the lowest k bits of n, the last one first -/
def rv (n : Nat) : Nat → Nat
  | 0 => 0
  | k + 1 => 2 * rv n k + n / 2 ^ k % 2
/-- the greatest bit -/
def lg (n : Nat) : Int := if n = 0 then -1 else (n.log2 : Int)
/-- the least multiple, unless it is too great -/
def up (n to : Int) : Int := if n < 1 ∨ to < 1 then 0 else if 4611686018427387904 < ((n - 1) / to + 1) * to then 0 else ((n - 1) / to + 1) * to
/-- the lowest k bytes, the lowest one first -/
def le (n : Nat) : Nat → List UInt8
  | 0 => []
  | k + 1 => UInt8.ofNat (n % 256) :: le (n / 256) k
/-- the number that bytes are -/
def vl : List UInt8 → Nat
  | [] => 0
  | b :: r => b.toNat + 256 * vl r

theorem rv_lt (n k : Nat) : rv n k < 2 ^ k := by
  induction k with
  | zero => simp [rv]
  | succ k ih => simp only [rv, Nat.pow_succ]; omega

theorem div_pow (n k : Nat) : n / 2 ^ k / 2 = n / 2 ^ (k + 1) := by rw [Nat.div_div_eq_div_mul, Nat.pow_succ]
theorem div_pow256 (n k : Nat) : n / 256 ^ k / 256 = n / 256 ^ (k + 1) := by rw [Nat.div_div_eq_div_mul, Nat.pow_succ]


theorem wrap_nat (a : Nat) : IntKind.u64.wrap (a : Int) = ((a % 18446744073709551616 : Nat) : Int) := by rw [IntKind.wrap_u64]; omega
theorem wrap_nat_lt (a : Nat) (h : a < 18446744073709551616) : IntKind.u64.wrap (a : Int) = (a : Int) := by rw [wrap_nat]; congr 1; omega
theorem pow_le64 {k : Nat} (h : k ≤ 64) : 2 ^ k ≤ 18446744073709551616 := by
  have := Nat.pow_le_pow_right (n := 2) (by decide) h
  simpa using this
theorem pow_lt64 {k : Nat} (h : k < 64) : 2 * 2 ^ k ≤ 18446744073709551616 := by
  have := Nat.pow_le_pow_right (n := 2) (by decide) h
  rw [Nat.pow_succ] at this
  have e : (2 : Nat) ^ 64 = 18446744073709551616 := by decide
  omega
theorem cast_pow2 (k : Nat) : (2 : Int) ^ k = ((2 ^ k : Nat) : Int) := by simp

/-- what Mask answers -/
theorem mask_val (m : Nat) (h : m ≤ 64) : IntKind.u64.wrap (IntKind.u64.wrap (2 ^ m) - 1) = (mk m : Int) := by
  unfold mk
  rw [cast_pow2, wrap_nat]
  have hp : 0 < 2 ^ m := Nat.two_pow_pos m
  by_cases h4 : m = 64
  · subst h4; decide
  · have h5 := pow_lt64 (show m < 64 by omega)
    rw [Nat.mod_eq_of_lt (by omega), IntKind.wrap_u64]
    omega

theorem mk_zero : mk 0 = 0 := rfl
theorem mk_succ (k : Nat) : mk (k + 1) = 2 * mk k + 1 := by
  unfold mk
  have := Nat.two_pow_pos k
  rw [Nat.pow_succ]; omega
theorem mk_lt (k : Nat) : mk k < 2 ^ k := by
  unfold mk
  have := Nat.two_pow_pos k
  omega

/-- what fits answers -/
theorem fits_val (n x : Int) (h0 : 0 ≤ n) (h1 : 0 ≤ x) : (n / 2 ^ (8 * x).toNat == 0) = decide (n.toNat < 256 ^ x.toNat) := by
  obtain ⟨a, rfl⟩ := Int.eq_ofNat_of_zero_le h0
  obtain ⟨b, rfl⟩ := Int.eq_ofNat_of_zero_le h1
  have e : (8 * (b : Int)).toNat = 8 * b := by omega
  have e2 : (256 : Nat) ^ b = 2 ^ (8 * b) := by rw [Nat.pow_mul]
  rw [e, Int.toNat_natCast, Int.toNat_natCast, e2, cast_pow2, ← Int.natCast_ediv, Bool.eq_iff_iff]
  simp only [beq_iff_eq, decide_eq_true_eq]
  have hp : 0 < 2 ^ (8 * b) := Nat.two_pow_pos _
  constructor
  · intro h
    have h' : a / 2 ^ (8 * b) = 0 := by omega
    rcases (Nat.div_eq_zero_iff).1 h' with h'' | h''
    · omega
    · exact h''
  · intro h
    rw [Nat.div_eq_of_lt h]; rfl

theorem and_one (a : Nat) : a &&& 1 = a % 2 := by
  simp
theorem or_bit (t b : Nat) (hb : b < 2) : 2 * t ||| b = 2 * t + b := by
  have := Nat.two_pow_add_eq_or_of_lt (i := 1) (b := b) (by simpa using hb) t
  simpa using this.symm

/-- a round of Turn -/
theorem turn_step (n k : Nat) (hn : n < 18446744073709551616) (hk : k < 64) :
    bits .or .u64 (IntKind.u64.wrap ((rv n k : Int) * 2)) (bits .and .u64 ((n / 2 ^ k : Nat) : Int) 1) = (rv n (k + 1) : Int) := by
  have h1 := rv_lt n k
  have h2 := pow_lt64 hk
  have h3 : n / 2 ^ k ≤ n := Nat.div_le_self _ _
  have e1 : IntKind.u64.wrap ((rv n k : Int) * 2) = ((2 * rv n k : Nat) : Int) := by
    rw [show ((rv n k : Int) * 2) = ((2 * rv n k : Nat) : Int) by omega]
    exact wrap_nat_lt _ (by omega)
  have e2 : bits .and .u64 ((n / 2 ^ k : Nat) : Int) 1 = ((n / 2 ^ k % 2 : Nat) : Int) := by
    have := bits_and_u64_nat (n / 2 ^ k) 1 (by omega) (by decide)
    rw [and_one] at this
    exact this
  rw [e1, e2, bits_or_u64_nat _ _ (by omega) (by omega), or_bit _ _ (by omega)]
  rfl

theorem turn_step' (n k : Nat) (hn : n < big) (hk : k < 64) :
    bits .or .u64 (IntKind.u64.wrap ((rv n k : Int) * 2)) (bits .and .u64 ((n : Int) / 2 ^ k) 1) = (rv n (k + 1) : Int) := by
  have h := turn_step n k hn hk
  rw [Int.natCast_ediv, Int.natCast_pow] at h
  exact h
theorem div_step (n k : Nat) : (n : Int) / 2 ^ k / 2 = (n : Int) / 2 ^ (k + 1) := by
  rw [cast_pow2, cast_pow2, ← Int.natCast_ediv, ← Int.natCast_ediv, ← div_pow]
  rfl

theorem lg_zero : lg 0 = -1 := rfl
/-- the greatest bit, by how often it can be halved -/
theorem lg_of (n k : Nat) (h1 : n / 2 ^ k = 0) (h2 : k = 0 ∨ n / 2 ^ (k - 1) ≠ 0) : lg n = (k : Int) - 1 := by
  have hp : 0 < 2 ^ k := Nat.two_pow_pos k
  have h3 : n < 2 ^ k := by
    rcases (Nat.div_eq_zero_iff).1 h1 with h | h
    · omega
    · exact h
  unfold lg
  by_cases hn : n = 0
  · subst hn
    rcases h2 with h2 | h2
    · subst h2; rfl
    · simp at h2
  · rw [if_neg hn]
    have hk : k ≠ 0 := by
      intro h; subst h; simp at h3; exact hn h3
    rcases h2 with h2 | h2
    · exact absurd h2 hk
    · have h4 : 2 ^ (k - 1) ≤ n := by
        apply Nat.le_of_not_lt
        intro h5
        exact h2 (Nat.div_eq_of_lt h5)
      have h5 := (Nat.log2_lt hn (k := k)).2 h3
      have h6 := (Nat.le_log2 hn (k := k - 1)).2 h4
      omega
theorem lg_lt (n : Nat) (h : n < 18446744073709551616) : lg n < 64 := by
  unfold lg
  split
  · omega
  · rename_i hn
    have := (Nat.log2_lt hn (k := 64)).2 (by simpa using h)
    omega
theorem lg_ge (n : Nat) : -1 ≤ lg n := by unfold lg; split <;> omega

/-- bit k -/
theorem halves_zero (n k : Nat) (h : (n : Int) / 2 ^ k = 0) : n / 2 ^ k = 0 := by
  rw [cast_pow2, ← Int.natCast_ediv] at h; omega
theorem halves_ne (n k : Nat) (h : (n : Int) / 2 ^ k ≠ 0) : n / 2 ^ k ≠ 0 := by
  rw [cast_pow2, ← Int.natCast_ediv] at h; omega
theorem halves_pos (n k : Nat) (h : 0 < (n : Int) / 2 ^ k) : n / 2 ^ k ≠ 0 := by
  rw [cast_pow2, ← Int.natCast_ediv] at h; omega
theorem halves_lt (n k : Nat) (hn : n < big) (h : n / 2 ^ k ≠ 0) : k < 64 := by
  apply Nat.lt_of_not_le
  intro h4
  apply h
  apply Nat.div_eq_of_lt
  have := Nat.pow_le_pow_right (n := 2) (by decide) h4
  rw [← big_eq] at this
  omega
theorem halves_nonneg (n k : Nat) : 0 ≤ (n : Int) / 2 ^ k := by
  rw [cast_pow2, ← Int.natCast_ediv]; exact Int.natCast_nonneg _
theorem halves_le (n k : Nat) (hn : n < big) : (n : Int) / 2 ^ k ≤ 18446744073709551615 := by
  rw [cast_pow2, ← Int.natCast_ediv]
  have : n / 2 ^ k ≤ n := Nat.div_le_self _ _
  unfold big at hn
  omega

/-- what Up answers -/
theorem up_mul_lt (n to : Int) (hn : 1 ≤ n) (ht : 1 ≤ to) : 0 ≤ ((n - 1) / to + 1) * to ∧ ((n - 1) / to + 1) * to ≤ n - 1 + to := by
  have h1 := Int.ediv_mul_le (n - 1) (show to ≠ 0 by omega)
  have h2 : 0 ≤ (n - 1) / to := Int.ediv_nonneg (by omega) (by omega)
  rw [Int.add_mul, Int.one_mul]
  refine ⟨?_, by omega⟩
  have h3 := Int.mul_nonneg h2 (show 0 ≤ to by omega)
  omega
theorem up_mul_ge (n to : Int) (hn : 1 ≤ n) (ht : 1 ≤ to) : n ≤ ((n - 1) / to + 1) * to := by
  have h1 := Int.lt_ediv_add_one_mul_self (n - 1) (show 0 < to by omega)
  omega
/-- the least multiple, reckoned by what is left -/
theorem up_left0 (n to : Int) (hn : 1 ≤ n) (ht : 1 ≤ to) (h : n % to = 0) : ((n - 1) / to + 1) * to = n := by
  have h1 := up_mul_lt n to hn ht
  have h2 := up_mul_ge n to hn ht
  obtain ⟨q, hq⟩ := Int.dvd_of_emod_eq_zero h
  generalize hm : (n - 1) / to + 1 = m at *
  -- n = to * q, n ≤ m * to < n + to
  rw [hq] at h1 h2 ⊢
  have e1 : q ≤ m := by
    apply Int.le_of_not_gt
    intro hlt
    have := Int.mul_le_mul_of_nonneg_left (show m + 1 ≤ q by omega) (show 0 ≤ to by omega)
    rw [Int.mul_add, Int.mul_comm to m] at this
    omega
  have e2 : m ≤ q := by
    apply Int.le_of_not_gt
    intro hlt
    have := Int.mul_le_mul_of_nonneg_left (show q + 1 ≤ m by omega) (show 0 ≤ to by omega)
    rw [Int.mul_add, Int.mul_comm to m] at this
    omega
  rw [show m = q by omega, Int.mul_comm]
theorem up_left (n to : Int) (hn : 1 ≤ n) (ht : 1 ≤ to) (h : n % to ≠ 0) : ((n - 1) / to + 1) * to = n - n % to + to := by
  have h1 := Int.emod_add_mul_ediv n to
  have h2 := Int.emod_nonneg n (show to ≠ 0 by omega)
  have h3 := Int.emod_lt_of_pos n (show 0 < to by omega)
  have h4 : (n - 1) / to = n / to := by
    have e : n - 1 = (n % to - 1) + to * (n / to) := by omega
    have e2 : (n - 1) / to = ((n % to - 1) + to * (n / to)) / to := by rw [← e]
    rw [e2, Int.add_mul_ediv_left _ _ (show to ≠ 0 by omega), Int.ediv_eq_zero_of_lt (by omega) (by omega), Int.zero_add]
  rw [h4, Int.add_mul, Int.one_mul]
  have h5 : n / to * to = to * (n / to) := Int.mul_comm _ _
  omega

theorem up_wrap (n to : Int) (h1 : 1 ≤ n) (h2 : 1 ≤ to) (h3 : n ≤ 9223372036854775807) (h4 : to ≤ 9223372036854775807) :
    IntKind.u64.wrap (IntKind.u64.wrap ((n - 1) / to + 1) * to) = ((n - 1) / to + 1) * to := by
  have hq := up_mul_lt n to h1 h2
  have h5 : 0 ≤ (n - 1) / to := Int.ediv_nonneg (by omega) (by omega)
  have h6 : (n - 1) / to ≤ n - 1 := Int.ediv_le_self _ (by omega)
  rw [IntWalk.u64_in ((n - 1) / to + 1) ⟨by omega, by omega⟩, IntWalk.u64_in _ ⟨by omega, by omega⟩]
theorem mk_step (k : Nat) (h : k < 64) : IntKind.u64.wrap (IntKind.u64.wrap (2 * (mk k : Int)) + 1) = (mk (k + 1) : Int) := by
  have h1 := mk_lt k
  have h2 := pow_lt64 h
  rw [mk_succ, IntWalk.u64_in (2 * (mk k : Int)) ⟨by omega, by omega⟩, IntWalk.u64_in _ ⟨by omega, by omega⟩]
  omega

theorem bit_val (N k : Nat) : (N : Int) / 2 ^ k % 2 = ((N / 2 ^ k % 2 : Nat) : Int) := by simp
theorem rturn_step (N k : Nat) (h : k < 64) :
    IntKind.u64.wrap (IntKind.u64.wrap (2 * (rv N k : Int)) + ((N / 2 ^ k % 2 : Nat) : Int)) = (rv N (k + 1) : Int) := by
  have h1 := rv_lt N k
  have h2 := pow_lt64 h
  have e : rv N (k + 1) = 2 * rv N k + N / 2 ^ k % 2 := rfl
  rw [e, IntWalk.u64_in (2 * (rv N k : Int)) ⟨by omega, by omega⟩, IntWalk.u64_in _ ⟨by omega, by omega⟩]
  omega
theorem up_far (n to : Int) (h1 : 1 ≤ n) (h2 : 1 ≤ to) (h : 4611686018427387904 < n ∨ 4611686018427387904 < to) : up n to = 0 := by
  have g := up_mul_ge n to h1 h2
  have g0 : 0 ≤ (n - 1) / to := Int.ediv_nonneg (by omega) (by omega)
  have g1 : 0 ≤ (n - 1) / to * to := Int.mul_nonneg g0 (by omega)
  have g2 : ((n - 1) / to + 1) * to = (n - 1) / to * to + to := by rw [Int.add_mul, Int.one_mul]
  unfold up
  rw [if_neg (by omega), if_pos (by omega)]
theorem up_at0 (n to : Int) (h1 : 1 ≤ n) (h2 : 1 ≤ to) (h3 : n ≤ 4611686018427387904) (h : n % to = 0) : up n to = n := by
  have g := up_left0 n to h1 h2 h
  unfold up
  rw [if_neg (by omega), g, if_neg (by omega)]
theorem up_at1 (n to : Int) (h1 : 1 ≤ n) (h2 : 1 ≤ to) (h : n % to ≠ 0) (h3 : 4611686018427387904 - to < n - n % to) : up n to = 0 := by
  have g := up_left n to h1 h2 h
  unfold up
  rw [if_neg (by omega), g, if_pos (by omega)]
theorem up_at2 (n to : Int) (h1 : 1 ≤ n) (h2 : 1 ≤ to) (h : n % to ≠ 0) (h3 : ¬ 4611686018427387904 - to < n - n % to) : up n to = n - n % to + to := by
  have g := up_left n to h1 h2 h
  unfold up
  rw [if_neg (by omega), g, if_neg (by omega)]

/-- bytes as a string -/
def bstr (l : List UInt8) : ByteArray := ⟨l.toArray⟩

end Go.Proofs.Ytbbfbijgclpjeaa.M
