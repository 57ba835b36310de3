/- Texts of one place, one behind the other: Math, QmB, QmC, QmD, QmE. -/
import Derived.Laws.Bits64b
import Derived.IntWalk
/- The plain mathematics of layer 1: bytes of numbers, bits turned about, greatest bits, multiples. No program. -/
namespace Go.Proofs.YtfochecpdfmfbaaGreatDoor.M
open Go
set_option linter.unusedVariables false

/-- 2^64, behind a name that the walk does not open -/
def big : Nat := 18446744073709551616
/-- the number with k bits, all 1 -/
def mk (k : Nat) : Nat := 2 ^ k - 1
/-- the lowest k bits of n, the last one first -/
def rv (n : Nat) : Nat → Nat
  | 0 => 0
  | k + 1 => 2 * rv n k + n / 2 ^ k % 2
/-- the least multiple, unless it is too great -/
def up (n to : Int) : Int := if n < 1 ∨ to < 1 then 0 else if 4611686018427387904 < ((n - 1) / to + 1) * to then 0 else ((n - 1) / to + 1) * to
/-- the lowest k bytes, the lowest one first -/
def le (n : Nat) : Nat → List UInt8
  | 0 => []
  | k + 1 => UInt8.ofNat (n % 256) :: le (n / 256) k
/-- the number that bytes are -/
def vl : List UInt8 → Nat
  | [] => 0
  | b :: r => b.toNat + 256 * vl r

theorem rv_lt (n k : Nat) : rv n k < 2 ^ k := by
  induction k with
  | zero => simp [rv]
  | succ k ih => simp only [rv, Nat.pow_succ]; omega

theorem div_pow (n k : Nat) : n / 2 ^ k / 2 = n / 2 ^ (k + 1) := by rw [Nat.div_div_eq_div_mul, Nat.pow_succ]
theorem div_pow256 (n k : Nat) : n / 256 ^ k / 256 = n / 256 ^ (k + 1) := by rw [Nat.div_div_eq_div_mul, Nat.pow_succ]


theorem wrap_nat (a : Nat) : IntKind.u64.wrap (a : Int) = ((a % 18446744073709551616 : Nat) : Int) := by rw [IntKind.wrap_u64]; omega
theorem wrap_nat_lt (a : Nat) (h : a < 18446744073709551616) : IntKind.u64.wrap (a : Int) = (a : Int) := by rw [wrap_nat]; congr 1; omega
theorem pow_lt64 {k : Nat} (h : k < 64) : 2 * 2 ^ k ≤ 18446744073709551616 := by
  have := Nat.pow_le_pow_right (n := 2) (by decide) h
  rw [Nat.pow_succ] at this
  have e : (2 : Nat) ^ 64 = 18446744073709551616 := by decide
  omega
theorem cast_pow2 (k : Nat) : (2 : Int) ^ k = ((2 ^ k : Nat) : Int) := by simp

/-- what Mask answers -/
theorem mask_val (m : Nat) (h : m ≤ 64) : IntKind.u64.wrap (IntKind.u64.wrap (2 ^ m) - 1) = (mk m : Int) := by
  unfold mk
  rw [cast_pow2, wrap_nat]
  have hp : 0 < 2 ^ m := Nat.two_pow_pos m
  by_cases h4 : m = 64
  · subst h4; decide
  · have h5 := pow_lt64 (show m < 64 by omega)
    rw [Nat.mod_eq_of_lt (by omega), IntKind.wrap_u64]
    omega

theorem and_one (a : Nat) : a &&& 1 = a % 2 := by
  simp
theorem or_bit (t b : Nat) (hb : b < 2) : 2 * t ||| b = 2 * t + b := by
  have := Nat.two_pow_add_eq_or_of_lt (i := 1) (b := b) (by simpa using hb) t
  simpa using this.symm

/-- a round of Turn -/
theorem turn_step (n k : Nat) (hn : n < 18446744073709551616) (hk : k < 64) :
    bits .or .u64 (IntKind.u64.wrap ((rv n k : Int) * 2)) (bits .and .u64 ((n / 2 ^ k : Nat) : Int) 1) = (rv n (k + 1) : Int) := by
  have h1 := rv_lt n k
  have h2 := pow_lt64 hk
  have h3 : n / 2 ^ k ≤ n := Nat.div_le_self _ _
  have e1 : IntKind.u64.wrap ((rv n k : Int) * 2) = ((2 * rv n k : Nat) : Int) := by
    rw [show ((rv n k : Int) * 2) = ((2 * rv n k : Nat) : Int) by omega]
    exact wrap_nat_lt _ (by omega)
  have e2 : bits .and .u64 ((n / 2 ^ k : Nat) : Int) 1 = ((n / 2 ^ k % 2 : Nat) : Int) := by
    have := bits_and_u64_nat (n / 2 ^ k) 1 (by omega) (by decide)
    rw [and_one] at this
    exact this
  rw [e1, e2, bits_or_u64_nat _ _ (by omega) (by omega), or_bit _ _ (by omega)]
  rfl

theorem turn_step' (n k : Nat) (hn : n < big) (hk : k < 64) :
    bits .or .u64 (IntKind.u64.wrap ((rv n k : Int) * 2)) (bits .and .u64 ((n : Int) / 2 ^ k) 1) = (rv n (k + 1) : Int) := by
  have h := turn_step n k hn hk
  rw [Int.natCast_ediv, Int.natCast_pow] at h
  exact h
theorem div_step (n k : Nat) : (n : Int) / 2 ^ k / 2 = (n : Int) / 2 ^ (k + 1) := by
  rw [cast_pow2, cast_pow2, ← Int.natCast_ediv, ← Int.natCast_ediv, ← div_pow]
  rfl

/-- what Up answers -/
theorem up_mul_lt (n to : Int) (hn : 1 ≤ n) (ht : 1 ≤ to) : 0 ≤ ((n - 1) / to + 1) * to ∧ ((n - 1) / to + 1) * to ≤ n - 1 + to := by
  have h1 := Int.ediv_mul_le (n - 1) (show to ≠ 0 by omega)
  have h2 : 0 ≤ (n - 1) / to := Int.ediv_nonneg (by omega) (by omega)
  rw [Int.add_mul, Int.one_mul]
  refine ⟨?_, by omega⟩
  have h3 := Int.mul_nonneg h2 (show 0 ≤ to by omega)
  omega
theorem up_wrap (n to : Int) (h1 : 1 ≤ n) (h2 : 1 ≤ to) (h3 : n ≤ 9223372036854775807) (h4 : to ≤ 9223372036854775807) :
    IntKind.u64.wrap (IntKind.u64.wrap ((n - 1) / to + 1) * to) = ((n - 1) / to + 1) * to := by
  have hq := up_mul_lt n to h1 h2
  have h5 : 0 ≤ (n - 1) / to := Int.ediv_nonneg (by omega) (by omega)
  have h6 : (n - 1) / to ≤ n - 1 := Int.ediv_le_self _ (by omega)
  rw [IntWalk.u64_in ((n - 1) / to + 1) ⟨by omega, by omega⟩, IntWalk.u64_in _ ⟨by omega, by omega⟩]
/-- bytes as a string -/
def bstr (l : List UInt8) : ByteArray := ⟨l.toArray⟩

end Go.Proofs.YtfochecpdfmfbaaGreatDoor.M

/- The plain mathematics of layer 1, on: bytes as strings. No program. -/
namespace Go.Proofs.YtfochecpdfmfbaaGreatDoor.M
open Go
set_option linter.unusedVariables false

theorem le_length (n k : Nat) : (le n k).length = k := by
  induction k generalizing n with
  | zero => rfl
  | succ k ih => simp [le, ih]

/-- the bytes, place by place -/
theorem le_eq (n k : Nat) : le n k = (List.range k).map fun j => UInt8.ofNat (n / 256 ^ j % 256) := by
  induction k generalizing n with
  | zero => rfl
  | succ k ih =>
    rw [le, ih, List.range_succ_eq_map, List.map_cons, List.map_map]
    congr 1
    · simp
    · apply List.map_congr_left
      intro j _
      simp only [Function.comp]
      rw [Nat.div_div_eq_div_mul, Nat.pow_succ', Nat.mul_comm]

theorem foldl_push (ns : List Int) (s : ByteArray) : ns.foldl (fun r n => r.push (UInt8.ofNat n.toNat)) s = ⟨(s.data.toList ++ ns.map fun n => UInt8.ofNat n.toNat).toArray⟩ := by
  induction ns generalizing s with
  | nil => simp
  | cons n ns ih =>
    rw [List.foldl_cons, ih]
    simp [ByteArray.push]

theorem vl_snoc (l : List UInt8) (b : UInt8) : vl (l ++ [b]) = vl l + 256 ^ l.length * b.toNat := by
  induction l with
  | nil => simp [vl]
  | cons x l ih =>
    simp only [List.cons_append, vl, ih, List.length_cons, Nat.pow_succ]
    rw [Nat.mul_add, Nat.mul_comm (256 ^ l.length) 256, Nat.mul_assoc]
    omega
theorem vl_lt (l : List UInt8) : vl l < 256 ^ l.length := by
  induction l with
  | nil => simp [vl]
  | cons x l ih =>
    have := x.toNat_lt
    simp only [vl, List.length_cons, Nat.pow_succ]
    omega
theorem size_list (s : ByteArray) : s.data.toList.length = s.size := by rw [Array.length_toList]; rfl
theorem byte_at (s : ByteArray) (i : Nat) (h : i < s.size) : s.data.toList[i]'(by rw [size_list]; exact h) = s[i] := by
  rw [Array.getElem_toList]; rfl
theorem or_high (x b i : Nat) (h : x < 2 ^ i) : x ||| b * 2 ^ i = x + 2 ^ i * b := by
  have := Nat.two_pow_add_eq_or_of_lt h b
  rw [Nat.or_comm, Nat.mul_comm b, ← this, Nat.add_comm]

/-- the bytes as numbers -/
def bys (N k : Nat) : List Int := (List.range k).map fun j => ((N / 256 ^ j % 256 : Nat) : Int)
theorem bys_length (N k : Nat) : (bys N k).length = k := by simp [bys]
theorem bys_le (N k : Nat) : (bys N k).map (fun n => UInt8.ofNat n.toNat) = le N k := by
  rw [le_eq]
  unfold bys
  rw [List.map_map]
  apply List.map_congr_left
  intro j _
  simp only [Function.comp]
  rw [Int.toNat_natCast]
end Go.Proofs.YtfochecpdfmfbaaGreatDoor.M

/- The plain mathematics of layer 1, on: bits turned about and back. No program. -/
namespace Go.Proofs.YtfochecpdfmfbaaGreatDoor.M
open Go
set_option linter.unusedVariables false

theorem mod_pow_succ (n k : Nat) : n % 2 ^ (k + 1) = n % 2 ^ k + 2 ^ k * (n / 2 ^ k % 2) := by
  rw [Nat.pow_succ, Nat.mod_mul]
theorem up_range (n to : Int) : 0 ≤ up n to ∧ up n to ≤ 4611686018427387904 := by
  unfold up
  split
  · omega
  · rename_i h
    have g := up_mul_lt n to (by omega) (by omega)
    split <;> omega
theorem le_mod (n a : Nat) : le (n % 256 ^ a) a = le n a := by
  induction a generalizing n with
  | zero => rfl
  | succ a ih =>
    simp only [le]
    have h1 : n % 256 ^ (a + 1) % 256 = n % 256 := by
      rw [Nat.pow_succ', Nat.mod_mul_right_mod]
    have h2 : n % 256 ^ (a + 1) / 256 = n / 256 % 256 ^ a := by
      rw [Nat.pow_succ', Nat.mod_mul_right_div_self]
    rw [h1, h2, ih]
theorem le_add (n a b : Nat) : le n (a + b) = le n a ++ le (n / 256 ^ a) b := by
  induction a generalizing n with
  | zero => simp [le]
  | succ a ih =>
    rw [show a + 1 + b = (a + b) + 1 by omega]
    simp only [le, List.cons_append]
    rw [ih, Nat.div_div_eq_div_mul, Nat.pow_succ']
end Go.Proofs.YtfochecpdfmfbaaGreatDoor.M

/- The plain mathematics of layer 1, on: multiples of multiples; masks that grow. No program. -/
namespace Go.Proofs.YtfochecpdfmfbaaGreatDoor.M
open Go
set_option linter.unusedVariables false

end Go.Proofs.YtfochecpdfmfbaaGreatDoor.M

/- The plain mathematics of layer 1, on: bytes as numbers and back. No program. -/
namespace Go.Proofs.YtfochecpdfmfbaaGreatDoor.M
open Go
set_option linter.unusedVariables false

theorem le_vl (l : List UInt8) : le (vl l) l.length = l := by
  induction l with
  | nil => rfl
  | cons b r ih =>
    have hb := b.toNat_lt
    have e1 : (b.toNat + 256 * vl r) % 256 = b.toNat := by omega
    have e2 : (b.toNat + 256 * vl r) / 256 = vl r := by omega
    simp only [List.length_cons, le, vl]
    rw [e1, e2, ih, UInt8.ofNat_toNat]
end Go.Proofs.YtfochecpdfmfbaaGreatDoor.M
