/- Texts of one place, one behind the other: Math, QmB, QmC, NbV. -/
import Derived.Laws.Bits64b
import Derived.IntWalk
namespace Go.Proofs.YtolcaknhjjejeaaDoor.M
open Go
set_option linter.unusedVariables false
def big : Nat := 18446744073709551616
def mk (k : Nat) : Nat := 2 ^ k - 1
def rv (n : Nat) : Nat → Nat
  | 0 => 0
  | k + 1 => 2 * rv n k + n / 2 ^ k % 2
def up (n to : Int) : Int := if n < 1 ∨ to < 1 then 0 else if 4611686018427387904 < ((n - 1) / to + 1) * to then 0 else ((n - 1) / to + 1) * to
def le (n : Nat) : Nat → List UInt8
  | 0 => []
  | k + 1 => UInt8.ofNat (n % 256) :: le (n / 256) k
def vl : List UInt8 → Nat
  | [] => 0
  | b :: r => b.toNat + 256 * vl r
theorem rv_lt (n k : Nat) : rv n k < 2 ^ k := by
  induction k with
  | zero => simp [rv]
  | succ k ih => simp only [rv, Nat.pow_succ]; omega
theorem div_pow (n k : Nat) : n / 2 ^ k / 2 = n / 2 ^ (k + 1) := by rw [Nat.div_div_eq_div_mul, Nat.pow_succ]
theorem wrap_nat (a : Nat) : IntKind.u64.wrap (a : Int) = ((a % 18446744073709551616 : Nat) : Int) := by rw [IntKind.wrap_u64]; omega
theorem wrap_nat_lt (a : Nat) (h : a < 18446744073709551616) : IntKind.u64.wrap (a : Int) = (a : Int) := by rw [wrap_nat]; congr 1; omega
theorem pow_le64 {k : Nat} (h : k ≤ 64) : 2 ^ k ≤ 18446744073709551616 := by
  have := Nat.pow_le_pow_right (n := 2) (by decide) h
  simpa using this
theorem pow_lt64 {k : Nat} (h : k < 64) : 2 * 2 ^ k ≤ 18446744073709551616 := by
  have := Nat.pow_le_pow_right (n := 2) (by decide) h
  rw [Nat.pow_succ] at this
  have e : (2 : Nat) ^ 64 = 18446744073709551616 := by decide
  omega
theorem cast_pow2 (k : Nat) : (2 : Int) ^ k = ((2 ^ k : Nat) : Int) := by simp
theorem mask_val (m : Nat) (h : m ≤ 64) : IntKind.u64.wrap (IntKind.u64.wrap (2 ^ m) - 1) = (mk m : Int) := by
  unfold mk
  rw [cast_pow2, wrap_nat]
  have hp : 0 < 2 ^ m := Nat.two_pow_pos m
  by_cases h4 : m = 64
  · subst h4; decide
  · have h5 := pow_lt64 (show m < 64 by omega)
    rw [Nat.mod_eq_of_lt (by omega), IntKind.wrap_u64]
    omega
theorem mk_lt (k : Nat) : mk k < 2 ^ k := by
  unfold mk
  have := Nat.two_pow_pos k
  omega
theorem and_one (a : Nat) : a &&& 1 = a % 2 := by
  simp
theorem or_bit (t b : Nat) (hb : b < 2) : 2 * t ||| b = 2 * t + b := by
  have := Nat.two_pow_add_eq_or_of_lt (i := 1) (b := b) (by simpa using hb) t
  simpa using this.symm
theorem turn_step (n k : Nat) (hn : n < 18446744073709551616) (hk : k < 64) :
    bits .or .u64 (IntKind.u64.wrap ((rv n k : Int) * 2)) (bits .and .u64 ((n / 2 ^ k : Nat) : Int) 1) = (rv n (k + 1) : Int) := by
  have h1 := rv_lt n k
  have h2 := pow_lt64 hk
  have h3 : n / 2 ^ k ≤ n := Nat.div_le_self _ _
  have e1 : IntKind.u64.wrap ((rv n k : Int) * 2) = ((2 * rv n k : Nat) : Int) := by
    rw [show ((rv n k : Int) * 2) = ((2 * rv n k : Nat) : Int) by omega]
    exact wrap_nat_lt _ (by omega)
  have e2 : bits .and .u64 ((n / 2 ^ k : Nat) : Int) 1 = ((n / 2 ^ k % 2 : Nat) : Int) := by
    have := bits_and_u64_nat (n / 2 ^ k) 1 (by omega) (by decide)
    rw [and_one] at this
    exact this
  rw [e1, e2, bits_or_u64_nat _ _ (by omega) (by omega), or_bit _ _ (by omega)]
  rfl
theorem turn_step' (n k : Nat) (hn : n < big) (hk : k < 64) :
    bits .or .u64 (IntKind.u64.wrap ((rv n k : Int) * 2)) (bits .and .u64 ((n : Int) / 2 ^ k) 1) = (rv n (k + 1) : Int) := by
  have h := turn_step n k hn hk
  rw [Int.natCast_ediv, Int.natCast_pow] at h
  exact h
theorem div_step (n k : Nat) : (n : Int) / 2 ^ k / 2 = (n : Int) / 2 ^ (k + 1) := by
  rw [cast_pow2, cast_pow2, ← Int.natCast_ediv, ← Int.natCast_ediv, ← div_pow]
  rfl
theorem up_mul_lt (n to : Int) (hn : 1 ≤ n) (ht : 1 ≤ to) : 0 ≤ ((n - 1) / to + 1) * to ∧ ((n - 1) / to + 1) * to ≤ n - 1 + to := by
  have h1 := Int.ediv_mul_le (n - 1) (show to ≠ 0 by omega)
  have h2 : 0 ≤ (n - 1) / to := Int.ediv_nonneg (by omega) (by omega)
  rw [Int.add_mul, Int.one_mul]
  refine ⟨?_, by omega⟩
  have h3 := Int.mul_nonneg h2 (show 0 ≤ to by omega)
  omega
theorem up_wrap (n to : Int) (h1 : 1 ≤ n) (h2 : 1 ≤ to) (h3 : n ≤ 9223372036854775807) (h4 : to ≤ 9223372036854775807) :
    IntKind.u64.wrap (IntKind.u64.wrap ((n - 1) / to + 1) * to) = ((n - 1) / to + 1) * to := by
  have hq := up_mul_lt n to h1 h2
  have h5 : 0 ≤ (n - 1) / to := Int.ediv_nonneg (by omega) (by omega)
  have h6 : (n - 1) / to ≤ n - 1 := Int.ediv_le_self _ (by omega)
  rw [IntWalk.u64_in ((n - 1) / to + 1) ⟨by omega, by omega⟩, IntWalk.u64_in _ ⟨by omega, by omega⟩]
end Go.Proofs.YtolcaknhjjejeaaDoor.M

namespace Go.Proofs.YtolcaknhjjejeaaDoor.M
open Go
set_option linter.unusedVariables false
theorem le_eq (n k : Nat) : le n k = (List.range k).map fun j => UInt8.ofNat (n / 256 ^ j % 256) := by
  induction k generalizing n with
  | zero => rfl
  | succ k ih =>
    rw [le, ih, List.range_succ_eq_map, List.map_cons, List.map_map]
    congr 1
    · simp
    · apply List.map_congr_left
      intro j _
      simp only [Function.comp]
      rw [Nat.div_div_eq_div_mul, Nat.pow_succ', Nat.mul_comm]
theorem vl_lt (l : List UInt8) : vl l < 256 ^ l.length := by
  induction l with
  | nil => simp [vl]
  | cons x l ih =>
    have := x.toNat_lt
    simp only [vl, List.length_cons, Nat.pow_succ]
    omega
theorem size_list (s : ByteArray) : s.data.toList.length = s.size := by rw [Array.length_toList]; rfl
theorem or_high (x b i : Nat) (h : x < 2 ^ i) : x ||| b * 2 ^ i = x + 2 ^ i * b := by
  have := Nat.two_pow_add_eq_or_of_lt h b
  rw [Nat.or_comm, Nat.mul_comm b, ← this, Nat.add_comm]
def bys (N k : Nat) : List Int := (List.range k).map fun j => ((N / 256 ^ j % 256 : Nat) : Int)
end Go.Proofs.YtolcaknhjjejeaaDoor.M

namespace Go.Proofs.YtolcaknhjjejeaaDoor.M
open Go
set_option linter.unusedVariables false
theorem rv_zero (k : Nat) : rv 0 k = 0 := by
  induction k with
  | zero => rfl
  | succ k ih => simp [rv, ih]
theorem rv_split (n a b : Nat) : rv n (a + b) = rv n a * 2 ^ b + rv (n / 2 ^ a) b := by
  induction b with
  | zero => simp [rv]
  | succ b ih =>
    show 2 * rv n (a + b) + n / 2 ^ (a + b) % 2 = rv n a * 2 ^ (b + 1) + (2 * rv (n / 2 ^ a) b + n / 2 ^ a / 2 ^ b % 2)
    rw [ih, Nat.div_div_eq_div_mul, ← Nat.pow_add, Nat.pow_succ, Nat.mul_add]
    have : 2 * (rv n a * 2 ^ b) = rv n a * (2 ^ b * 2) := by rw [Nat.mul_comm (2 ^ b) 2, ← Nat.mul_assoc, ← Nat.mul_assoc, Nat.mul_comm 2]
    omega
theorem rv_front (m k : Nat) : rv m (k + 1) = m % 2 * 2 ^ k + rv (m / 2) k := by
  have := rv_split m 1 k
  rw [Nat.add_comm 1 k] at this
  simpa [rv] using this
theorem mod_pow_succ (n k : Nat) : n % 2 ^ (k + 1) = n % 2 ^ k + 2 ^ k * (n / 2 ^ k % 2) := by
  rw [Nat.pow_succ, Nat.mod_mul]
theorem rv_rv (n k : Nat) : rv (rv n k) k = n % 2 ^ k := by
  induction k with
  | zero => simp [rv, Nat.mod_one]
  | succ k ih =>
    rw [rv_front]
    have e1 : rv n (k + 1) % 2 = n / 2 ^ k % 2 := by simp only [rv]; omega
    have e2 : rv n (k + 1) / 2 = rv n k := by simp only [rv]; omega
    rw [e1, e2, ih, mod_pow_succ, Nat.mul_comm]
    omega
theorem rv_mod (n k m : Nat) (h : k ≤ m) : rv (n % 2 ^ m) k = rv n k := by
  induction k with
  | zero => rfl
  | succ k ih =>
    simp only [rv]
    rw [ih (by omega)]
    congr 1
    have h1 := Nat.testBit_mod_two_pow n m k
    rw [Nat.testBit_eq_decide_div_mod_eq, Nat.testBit_eq_decide_div_mod_eq] at h1
    have h2 : k < m := by omega
    simp only [h2, decide_true, Bool.true_and, decide_eq_decide] at h1
    omega
theorem and_mk (n k : Nat) : n &&& mk k = n % 2 ^ k := Nat.and_two_pow_sub_one_eq_mod n k
theorem mk_big (k : Nat) (h : k ≤ 64) : mk k < big := by
  have h1 := mk_lt k
  have h2 := pow_le64 h
  unfold big; omega
theorem and_mask (n k : Nat) (hn : n < big) (hk : k ≤ 64) : bits .and .u64 (n : Int) (mk k : Int) = ((n % 2 ^ k : Nat) : Int) := by
  rw [bits_and_u64_nat n (mk k) hn (mk_big k hk), and_mk]
theorem up_range (n to : Int) : 0 ≤ up n to ∧ up n to ≤ 4611686018427387904 := by
  unfold up
  split
  · omega
  · rename_i h
    have g := up_mul_lt n to (by omega) (by omega)
    split <;> omega
end Go.Proofs.YtolcaknhjjejeaaDoor.M

namespace Go.Proofs.YtolcaknhjjejeaaDoor.M
open Go
set_option linter.unusedVariables false
def tx (s : ByteArray) : Nat := vl s.data.toList
def nb (s : ByteArray) (a n : Nat) : Nat := tx s / 2 ^ a % 2 ^ n
def galign (a : Nat) : Nat := 8 * ((a + 7) / 8)
theorem p256' (k : Nat) : (256 : Nat) ^ k = 2 ^ (8 * k) := by rw [Nat.pow_mul]
theorem nb_lt (s : ByteArray) (a n : Nat) : nb s a n < 2 ^ n := Nat.mod_lt _ (Nat.two_pow_pos n)
theorem nb_big (s : ByteArray) (a n : Nat) (h : n ≤ 64) : nb s a n < big := by
  have h1 := nb_lt s a n
  have h2 := pow_le64 h
  unfold big; omega
theorem look_num (T a n : Nat) (h : a % 8 + n ≤ 64) : T / 256 ^ (a / 8) % 256 ^ 8 / 2 ^ (a % 8) % 2 ^ n = T / 2 ^ a % 2 ^ n := by
  have e : T / 256 ^ (a / 8) / 2 ^ (a % 8) = T / 2 ^ a := by
    rw [p256', Nat.div_div_eq_div_mul, ← Nat.pow_add, Nat.div_add_mod]
  rw [p256' 8, show 8 * 8 = a % 8 + (64 - a % 8) by omega, Nat.pow_add, Nat.mod_mul_right_div_self, e, show 64 - a % 8 = n + (64 - a % 8 - n) by omega, Nat.pow_add, Nat.mod_mul_right_mod]
theorem mod256_succ (N k : Nat) : N % 256 ^ (k + 1) = N % 256 ^ k + N / 256 ^ k % 256 * 256 ^ k := by
  rw [Nat.pow_succ, Nat.mod_mul, Nat.mul_comm]
theorem mod256_lt (N k : Nat) : N % 256 ^ k < 2 ^ (8 * k) := by rw [← p256']; exact Nat.mod_lt _ (Nat.pow_pos (by decide))
theorem or_byte (N k : Nat) (hk : k < 8) :
    bits .or .u64 ((N % 256 ^ k : Nat) : Int) (IntKind.u64.wrap (((N / 256 ^ k % 256 : Nat) : Int) * 2 ^ (k * 8))) = ((N % 256 ^ (k + 1) : Nat) : Int) := by
  have h1 := mod256_lt N k
  have h2 : N / 256 ^ k % 256 < 256 := Nat.mod_lt _ (by decide)
  have h3 : (2 : Nat) ^ (8 * k) ≤ 2 ^ 56 := Nat.pow_le_pow_right (by decide) (by omega)
  have e56 : (2 : Nat) ^ 56 = 72057594037927936 := by decide
  have h4 : N / 256 ^ k % 256 * 2 ^ (8 * k) ≤ 255 * 2 ^ (8 * k) := Nat.mul_le_mul_right _ (by omega)
  rw [Nat.mul_comm k 8, cast_pow2, ← Int.natCast_mul, wrap_nat_lt _ (by omega), bits_or_u64_nat _ _ (by omega) (by omega), or_high _ _ _ h1, mod256_succ, p256', Nat.mul_comm (2 ^ (8 * k))]
theorem look_end (s : ByteArray) (a n N u r : Nat) (hn : n ≤ 56) (hN : tx s / 256 ^ (a / 8) = N) (hu : N % 256 ^ 8 = u) (hr : a % 8 = r) :
    bits .and .u64 ((u : Int) / 2 ^ min r 64) (mk n : Int) = (nb s a n : Int) := by
  have hu2 : u < 256 ^ 8 := by rw [← hu]; exact Nat.mod_lt _ (by decide)
  have e8 : (256 : Nat) ^ 8 = big := by decide
  have hd : u / 2 ^ r ≤ u := Nat.div_le_self _ _
  rw [show min r 64 = r by omega, cast_pow2, ← Int.natCast_ediv, and_mask _ _ (by omega) (by omega)]
  unfold nb
  rw [← hu, ← hN, ← hr, look_num _ _ _ (by omega)]
theorem vl_drop (l : List UInt8) (k : Nat) : vl (l.drop k) = vl l / 256 ^ k := by
  induction k generalizing l with
  | zero => simp
  | succ k ih =>
    cases l with
    | nil => simp [vl]
    | cons b r =>
      have hb := b.toNat_lt
      rw [List.drop_succ_cons, ih]
      simp only [vl]
      rw [Nat.pow_succ', ← Nat.div_div_eq_div_mul]
      congr 1
      omega
theorem le_vl_take (l : List UInt8) (m : Nat) : le (vl l) m = l.take m ++ List.replicate (m - l.length) 0 := by
  induction m generalizing l with
  | zero => simp [le]
  | succ m ih =>
    cases l with
    | nil =>
      have := ih []
      simp only [vl, le, List.take_nil, List.nil_append, List.length_nil, Nat.sub_zero] at this ⊢
      rw [List.replicate_succ]
      congr 1
    | cons b r =>
      have hb := b.toNat_lt
      have e1 : (b.toNat + 256 * vl r) % 256 = b.toNat := by omega
      have e2 : (b.toNat + 256 * vl r) / 256 = vl r := by omega
      simp only [vl, le]
      rw [e1, e2, ih, UInt8.ofNat_toNat]
      simp
end Go.Proofs.YtolcaknhjjejeaaDoor.M
