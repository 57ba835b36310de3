/- The plain mathematics of layer 2: bits behind bits, as a number and how many they are. No program. -/
import Derived.Test.YtfochecpdfmfbaaGreatDoorMMath
import Derived.Lib.AppendStr
namespace Go.Proofs.YtfochecpdfmfbaaGreatDoor.M
open Go
set_option linter.unusedVariables false

/-! What the calls answer, of a writer with the bits of V, L of them: the error's number, then the bits behind the call -/
def bitsR (most : Int) (V L N : Nat) (size : Int) : Int × Nat × Nat :=
  if 0 ≤ size ∧ size ≤ 56 ∧ N < 2 ^ size.toNat then
    if (((L + size.toNat + 7) / 8 : Nat) : Int) ≤ most then (0, V + N * 2 ^ L, L + size.toNat) else (4, V, L)
  else (2, V, L)
def alignL (L : Nat) : Nat := 8 * ((L + 7) / 8)
def bytesR (most : Int) (V L : Nat) (s : ByteArray) : Int × Nat × Nat :=
  if (((L + 7) / 8 + s.size : Nat) : Int) ≤ most then (0, V + vl s.data.toList * 2 ^ alignL L, alignL L + 8 * s.size) else (4, V, L)
def textR (V L : Nat) : ByteArray := bstr (le V ((L + 7) / 8))

theorem bitsR_yes {most : Int} {V L N s : Nat} (h1 : s ≤ 56) (h2 : N < 2 ^ s) (h3 : (((L + s + 7) / 8 : Nat) : Int) ≤ most) : bitsR most V L N s = (0, V + N * 2 ^ L, L + s) := by
  unfold bitsR
  rw [if_pos ⟨by omega, by omega, by simpa using h2⟩, Int.toNat_natCast, if_pos h3]
theorem bitsR_full {most : Int} {V L N s : Nat} (h1 : s ≤ 56) (h2 : N < 2 ^ s) (h3 : ¬ (((L + s + 7) / 8 : Nat) : Int) ≤ most) : bitsR most V L N s = (4, V, L) := by
  unfold bitsR
  rw [if_pos ⟨by omega, by omega, by simpa using h2⟩, Int.toNat_natCast, if_neg h3]
theorem bitsR_arg {most : Int} {V L N : Nat} {size : Int} (h : ¬ (0 ≤ size ∧ size ≤ 56 ∧ N < 2 ^ size.toNat)) : bitsR most V L N size = (2, V, L) := if_neg h
theorem bytesR_yes {most : Int} {V L : Nat} {s : ByteArray} (h : (((L + 7) / 8 + s.size : Nat) : Int) ≤ most) : bytesR most V L s = (0, V + vl s.data.toList * 2 ^ alignL L, alignL L + 8 * s.size) := if_pos h
theorem bytesR_full {most : Int} {V L : Nat} {s : ByteArray} (h : ¬ (((L + 7) / 8 + s.size : Nat) : Int) ≤ most) : bytesR most V L s = (4, V, L) := if_neg h

theorem p256 (k : Nat) : (256 : Nat) ^ k = 2 ^ (8 * k) := by rw [Nat.pow_mul]
theorem more_lt {V L N s : Nat} (hV : V < 2 ^ L) (hN : N < 2 ^ s) : V + N * 2 ^ L < 2 ^ (L + s) := by
  have h : (N + 1) * 2 ^ L ≤ 2 ^ s * 2 ^ L := Nat.mul_le_mul_right _ hN
  rw [Nat.add_mul, Nat.one_mul, ← Nat.pow_add, Nat.add_comm s L] at h
  omega
theorem split_pow {L j : Nat} (h : 8 * j ≤ L) : 2 ^ L = 256 ^ j * 2 ^ (L - 8 * j) := by
  rw [p256, ← Nat.pow_add]; congr 1; omega
theorem more_div {V L N k : Nat} (h : 8 * k ≤ L) : (V + N * 2 ^ L) / 256 ^ k = V / 256 ^ k + N * 2 ^ (L - 8 * k) := by
  rw [split_pow h, show N * (256 ^ k * 2 ^ (L - 8 * k)) = 256 ^ k * (N * 2 ^ (L - 8 * k)) by rw [Nat.mul_left_comm]]
  exact Nat.add_mul_div_left _ _ (Nat.pow_pos (by decide))
theorem wait_lt {V L k : Nat} (hV : V < 2 ^ L) (h : 8 * k ≤ L) : V / 256 ^ k < 2 ^ (L - 8 * k) := by
  apply Nat.div_lt_of_lt_mul
  rw [← split_pow h]; exact hV
theorem pow_small {a b : Nat} (h : a ≤ b) : 2 ^ a ≤ 2 ^ b := Nat.pow_le_pow_right (by decide) h

/-- w.wait |= n << w.waits -/
theorem or_wait {V L N k s m : Nat} (hV : V < 2 ^ L) (hk : 8 * k ≤ L) (hm : L - 8 * k = m) (hm7 : m ≤ 7) (hN : N < 2 ^ s) (hs : s ≤ 56) :
    bits .or .u64 ((V / 256 ^ k : Nat) : Int) (IntKind.u64.wrap ((N : Int) * 2 ^ m)) = (((V + N * 2 ^ L) / 256 ^ k : Nat) : Int) := by
  have hw := wait_lt hV hk
  rw [hm] at hw
  have h2 : N * 2 ^ m < 2 ^ (s + m) := by
    rw [Nat.pow_add]; exact Nat.mul_lt_mul_of_pos_right hN (Nat.two_pow_pos m)
  have h3 : 2 ^ (s + m) ≤ 2 ^ 63 := pow_small (by omega)
  have h4 : 2 ^ m ≤ 2 ^ 7 := pow_small hm7
  have e63 : (2 : Nat) ^ 63 = 9223372036854775808 := by decide
  rw [cast_pow2, ← Int.natCast_mul, wrap_nat_lt _ (by omega), bits_or_u64_nat _ _ (by omega) (by omega), or_high _ _ _ hw, more_div hk, hm, Nat.mul_comm]

theorem bys_same {V L N k : Nat} (h : 8 * k ≤ L) : bys (V + N * 2 ^ L) k = bys V k := by
  unfold bys
  apply List.map_congr_left
  intro j hj
  have hj' : j < k := List.mem_range.1 hj
  have e : (V + N * 2 ^ L) / 256 ^ j % 256 = V / 256 ^ j % 256 := by
    rw [more_div (by omega), show L - 8 * j = (L - 8 * j - 8) + 8 by omega, Nat.pow_add, ← Nat.mul_assoc]
    show (V / 256 ^ j + _ * 256) % 256 = _
    exact Nat.add_mul_mod_self_right _ _ _
  rw [e]
theorem bys_next (V k : Nat) : bys V (k + 1) = bys V k ++ [((V / 256 ^ k % 256 : Nat) : Int)] := by
  unfold bys
  rw [List.range_succ, List.map_append]
  rfl
theorem div_next (V k : Nat) : V / 256 ^ k / 256 = V / 256 ^ (k + 1) := div_pow256 V k

theorem bys_of_le (V k : Nat) : bys V k = (le V k).map fun b => (b.toNat : Int) := by
  rw [le_eq]
  unfold bys
  rw [List.map_map]
  apply List.map_congr_left
  intro j _
  simp

/-- the bytes of a string, behind whole bytes -/
theorem le_more (V q : Nat) (s : ByteArray) (hV : V < 256 ^ q) : le (V + vl s.data.toList * 256 ^ q) (q + s.size) = le V q ++ s.data.toList := by
  have hp : 0 < 256 ^ q := Nat.pow_pos (by decide)
  rw [le_add]
  have h1 : le (V + vl s.data.toList * 256 ^ q) q = le V q := by
    rw [← le_mod (V + vl s.data.toList * 256 ^ q) q, Nat.add_mul_mod_self_right, le_mod]
  have h2 : (V + vl s.data.toList * 256 ^ q) / 256 ^ q = vl s.data.toList := by
    rw [Nat.add_mul_div_right _ _ hp, Nat.div_eq_of_lt hV, Nat.zero_add]
  rw [h1, h2]
  have h3 := le_vl s.data.toList
  rw [size_list] at h3
  rw [h3]
theorem cells_more (V q : Nat) (s : ByteArray) (hV : V < 256 ^ q) :
    (bys V q).map (Value.int .u8) ++ Lib.strCells s = (bys (V + vl s.data.toList * 256 ^ q) (q + s.size)).map (Value.int .u8) := by
  rw [bys_of_le, bys_of_le, le_more V q s hV]
  simp [Lib.strCells]

/-- whole bytes -/
theorem text_whole {V L : Nat} (h : L % 8 = 0) : textR V L = bstr (le V (L / 8)) := by
  unfold textR; rw [show (L + 7) / 8 = L / 8 by omega]
/-- bits that wait -/
theorem text_rest {V L : Nat} (h : L % 8 ≠ 0) : textR V L = bstr ((bys V (L / 8) ++ [((V / 256 ^ (L / 8) % 256 : Nat) : Int)]).map fun n => UInt8.ofNat n.toNat) := by
  unfold textR; rw [show (L + 7) / 8 = L / 8 + 1 by omega, ← bys_next, bys_le]

theorem vl_take_succ (s : ByteArray) (k : Nat) (h : k < s.size) : vl (s.data.toList.take (k + 1)) = vl (s.data.toList.take k) + s[k].toNat * 256 ^ k := by
  have hl := size_list s
  rw [List.take_succ_eq_append_getElem (by omega), vl_snoc, List.length_take, show min k s.data.toList.length = k by omega, byte_at s k h, Nat.mul_comm]
theorem vl_take_all (s : ByteArray) : vl (s.data.toList.take s.size) = vl s.data.toList := by
  rw [List.take_of_length_le (by rw [size_list]; exact Nat.le_refl _)]
/-! The document's bits, one by one -/
end Go.Proofs.YtfochecpdfmfbaaGreatDoor.M
