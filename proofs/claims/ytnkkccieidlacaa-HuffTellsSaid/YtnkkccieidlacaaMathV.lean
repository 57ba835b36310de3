/- The plain mathematics of layer 3: the bits of a text from a place on, as a number; what a reader's calls answer. No program. -/
import Derived.Test.YtnkkccieidlacaaMathE
namespace Go.Proofs.Ytnkkccieidlacaa.M
open Go
set_option linter.unusedVariables false

/-- The text as one number, its first bit the lowest. -/
def tx (s : ByteArray) : Nat := vl s.data.toList
/-- The number of n bits from bit a on. -/
def nb (s : ByteArray) (a n : Nat) : Nat := tx s / 2 ^ a % 2 ^ n

/-! What the calls answer, of a reader behind a bits: the number or text, the error's number, how many bits it stands behind then -/
def gbits (s : ByteArray) (a : Nat) (x : Int) : Nat × Int × Nat :=
  if 0 ≤ x ∧ x ≤ 56 then (if x ≤ ((8 * s.size : Nat) : Int) - a then (nb s a x.toNat, 0, a + x.toNat) else (0, 6, a)) else (0, 2, a)
def gpeek (s : ByteArray) (a : Nat) (x : Int) : Nat × Int :=
  if 0 ≤ x ∧ x ≤ 56 then (nb s a (min x.toNat (8 * s.size - a)), ((min x.toNat (8 * s.size - a) : Nat) : Int)) else (0, 0)
def gskip (s : ByteArray) (a : Nat) (x : Int) : Int × Nat :=
  if 0 ≤ x then (if x ≤ ((8 * s.size : Nat) : Int) - a then (0, a + x.toNat) else (6, a)) else (2, a)
def galign (a : Nat) : Nat := 8 * ((a + 7) / 8)
def gbytes (s : ByteArray) (a : Nat) (x : Int) : ByteArray × Int × Nat :=
  if 0 ≤ x then (if x ≤ (s.size : Int) - ((a + 7) / 8 : Nat) then (s.extract ((a + 7) / 8) ((a + 7) / 8 + x.toNat), 0, 8 * ((a + 7) / 8 + x.toNat)) else (⟨#[]⟩, 6, a)) else (⟨#[]⟩, 2, a)

theorem p256' (k : Nat) : (256 : Nat) ^ k = 2 ^ (8 * k) := by rw [Nat.pow_mul]
theorem tx_lt (s : ByteArray) : tx s < 2 ^ (8 * s.size) := by
  have h := vl_lt s.data.toList
  rw [size_list, p256'] at h
  exact h
theorem nb_lt (s : ByteArray) (a n : Nat) : nb s a n < 2 ^ n := Nat.mod_lt _ (Nat.two_pow_pos n)
theorem nb_big (s : ByteArray) (a n : Nat) (h : n ≤ 64) : nb s a n < big := by
  have h1 := nb_lt s a n
  have h2 := pow_le64 h
  unfold big; omega

/-- eight bytes from byte q on, of which r bits are passed by, and n kept -/
theorem look_num (T a n : Nat) (h : a % 8 + n ≤ 64) : T / 256 ^ (a / 8) % 256 ^ 8 / 2 ^ (a % 8) % 2 ^ n = T / 2 ^ a % 2 ^ n := by
  have e : T / 256 ^ (a / 8) / 2 ^ (a % 8) = T / 2 ^ a := by
    rw [p256', Nat.div_div_eq_div_mul, ← Nat.pow_add, Nat.div_add_mod]
  rw [p256' 8, show 8 * 8 = a % 8 + (64 - a % 8) by omega, Nat.pow_add, Nat.mod_mul_right_div_self, e, show 64 - a % 8 = n + (64 - a % 8 - n) by omega, Nat.pow_add, Nat.mod_mul_right_mod]

/-- the number of the first k of the bytes that N has -/
theorem mod256_succ (N k : Nat) : N % 256 ^ (k + 1) = N % 256 ^ k + N / 256 ^ k % 256 * 256 ^ k := by
  rw [Nat.pow_succ, Nat.mod_mul, Nat.mul_comm]
theorem mod256_lt (N k : Nat) : N % 256 ^ k < 2 ^ (8 * k) := by rw [← p256']; exact Nat.mod_lt _ (Nat.pow_pos (by decide))

/-- n |= uint64(b) << (i * 8) -/
theorem or_byte (N k : Nat) (hk : k < 8) :
    bits .or .u64 ((N % 256 ^ k : Nat) : Int) (IntKind.u64.wrap (((N / 256 ^ k % 256 : Nat) : Int) * 2 ^ (k * 8))) = ((N % 256 ^ (k + 1) : Nat) : Int) := by
  have h1 := mod256_lt N k
  have h2 : N / 256 ^ k % 256 < 256 := Nat.mod_lt _ (by decide)
  have h3 : (2 : Nat) ^ (8 * k) ≤ 2 ^ 56 := Nat.pow_le_pow_right (by decide) (by omega)
  have e56 : (2 : Nat) ^ 56 = 72057594037927936 := by decide
  have h4 : N / 256 ^ k % 256 * 2 ^ (8 * k) ≤ 255 * 2 ^ (8 * k) := Nat.mul_le_mul_right _ (by omega)
  rw [Nat.mul_comm k 8, cast_pow2, ← Int.natCast_mul, wrap_nat_lt _ (by omega), bits_or_u64_nat _ _ (by omega) (by omega), or_high _ _ _ h1, mod256_succ, p256', Nat.mul_comm (2 ^ (8 * k))]

/-- n >> (a % 8) & Mask(size) -/
theorem look_end (s : ByteArray) (a n N u r : Nat) (hn : n ≤ 56) (hN : tx s / 256 ^ (a / 8) = N) (hu : N % 256 ^ 8 = u) (hr : a % 8 = r) :
    bits .and .u64 ((u : Int) / 2 ^ min r 64) (mk n : Int) = (nb s a n : Int) := by
  have hu2 : u < 256 ^ 8 := by rw [← hu]; exact Nat.mod_lt _ (by decide)
  have e8 : (256 : Nat) ^ 8 = big := by decide
  have hd : u / 2 ^ r ≤ u := Nat.div_le_self _ _
  rw [show min r 64 = r by omega, cast_pow2, ← Int.natCast_ediv, and_mask _ _ (by omega) (by omega)]
  unfold nb
  rw [← hu, ← hN, ← hr, look_num _ _ _ (by omega)]

theorem gbits_yes {s : ByteArray} {a n : Nat} (h1 : n ≤ 56) (h2 : a + n ≤ 8 * s.size) : gbits s a n = (nb s a n, 0, a + n) := by
  unfold gbits
  rw [if_pos ⟨by omega, by omega⟩, if_pos (by omega), Int.toNat_natCast]
theorem gbits_end {s : ByteArray} {a : Nat} {x : Int} (h1 : 0 ≤ x ∧ x ≤ 56) (h2 : ¬ x ≤ ((8 * s.size : Nat) : Int) - a) : gbits s a x = (0, 6, a) := by
  unfold gbits
  rw [if_pos h1, if_neg h2]
theorem gbits_arg {s : ByteArray} {a : Nat} {x : Int} (h1 : ¬ (0 ≤ x ∧ x ≤ 56)) : gbits s a x = (0, 2, a) := if_neg h1
theorem gpeek_yes {s : ByteArray} {a n : Nat} (h1 : n ≤ 56) : gpeek s a n = (nb s a (min n (8 * s.size - a)), ((min n (8 * s.size - a) : Nat) : Int)) := by
  unfold gpeek
  rw [if_pos ⟨by omega, by omega⟩, Int.toNat_natCast]
theorem gpeek_no {s : ByteArray} {a : Nat} {x : Int} (h1 : ¬ (0 ≤ x ∧ x ≤ 56)) : gpeek s a x = (0, 0) := if_neg h1
theorem gskip_yes {s : ByteArray} {a n : Nat} (h2 : a + n ≤ 8 * s.size) : gskip s a n = (0, a + n) := by
  unfold gskip
  rw [if_pos (by omega), if_pos (by omega), Int.toNat_natCast]
theorem gskip_end {s : ByteArray} {a : Nat} {x : Int} (h1 : 0 ≤ x) (h2 : ¬ x ≤ ((8 * s.size : Nat) : Int) - a) : gskip s a x = (6, a) := by
  unfold gskip
  rw [if_pos h1, if_neg h2]
theorem gskip_arg {s : ByteArray} {a : Nat} {x : Int} (h1 : ¬ 0 ≤ x) : gskip s a x = (2, a) := if_neg h1
theorem gbytes_yes {s : ByteArray} {a n : Nat} (h2 : (a + 7) / 8 + n ≤ s.size) : gbytes s a n = (s.extract ((a + 7) / 8) ((a + 7) / 8 + n), 0, 8 * ((a + 7) / 8 + n)) := by
  unfold gbytes
  rw [if_pos (by omega), if_pos (by omega), Int.toNat_natCast]
theorem gbytes_end {s : ByteArray} {a : Nat} {x : Int} (h1 : 0 ≤ x) (h2 : ¬ x ≤ (s.size : Int) - ((a + 7) / 8 : Nat)) : gbytes s a x = (⟨#[]⟩, 6, a) := by
  unfold gbytes
  rw [if_pos h1, if_neg h2]
theorem gbytes_arg {s : ByteArray} {a : Nat} {x : Int} (h1 : ¬ 0 ≤ x) : gbytes s a x = (⟨#[]⟩, 2, a) := if_neg h1

/-- the bytes of a text from byte k on, filled up with bytes 0 -/
theorem vl_drop (l : List UInt8) (k : Nat) : vl (l.drop k) = vl l / 256 ^ k := by
  induction k generalizing l with
  | zero => simp
  | succ k ih =>
    cases l with
    | nil => simp [vl]
    | cons b r =>
      have hb := b.toNat_lt
      rw [List.drop_succ_cons, ih]
      simp only [vl]
      rw [Nat.pow_succ', ← Nat.div_div_eq_div_mul]
      congr 1
      omega
theorem le_vl_take (l : List UInt8) (m : Nat) : le (vl l) m = l.take m ++ List.replicate (m - l.length) 0 := by
  induction m generalizing l with
  | zero => simp [le]
  | succ m ih =>
    cases l with
    | nil =>
      have := ih []
      simp only [vl, le, List.take_nil, List.nil_append, List.length_nil, Nat.sub_zero] at this ⊢
      rw [List.replicate_succ]
      congr 1
    | cons b r =>
      have hb := b.toNat_lt
      have e1 : (b.toNat + 256 * vl r) % 256 = b.toNat := by omega
      have e2 : (b.toNat + 256 * vl r) / 256 = vl r := by omega
      simp only [vl, le]
      rw [e1, e2, ih, UInt8.ofNat_toNat]
      simp
end Go.Proofs.Ytnkkccieidlacaa.M
