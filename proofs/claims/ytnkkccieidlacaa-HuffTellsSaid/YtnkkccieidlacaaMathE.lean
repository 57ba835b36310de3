/- The plain mathematics of layer 1, on: bytes as numbers and back. No program. -/
import Derived.Test.YtnkkccieidlacaaMathD
namespace Go.Proofs.Ytnkkccieidlacaa.M
open Go
set_option linter.unusedVariables false

theorem vl_le (n k : Nat) : vl (le n k) = n % 256 ^ k := by
  induction k generalizing n with
  | zero => simp [le, vl, Nat.mod_one]
  | succ k ih =>
    simp only [le, vl, ih]
    have h : (UInt8.ofNat (n % 256)).toNat = n % 256 := by simp
    rw [h, Nat.pow_succ', Nat.mod_mul]
theorem le_vl (l : List UInt8) : le (vl l) l.length = l := by
  induction l with
  | nil => rfl
  | cons b r ih =>
    have hb := b.toNat_lt
    have e1 : (b.toNat + 256 * vl r) % 256 = b.toNat := by omega
    have e2 : (b.toNat + 256 * vl r) / 256 = vl r := by omega
    simp only [List.length_cons, le, vl]
    rw [e1, e2, ih, UInt8.ofNat_toNat]
theorem bstr_inj (a b : List UInt8) (h : bstr a = bstr b) : a = b := by
  have := congrArg (fun s : ByteArray => s.data.toList) h
  simpa [bstr] using this
theorem bstr_ne (n m k : Nat) (hn : n < 256 ^ k) (hm : m < 256 ^ k) (h : n ≠ m) : bstr (le n k) ≠ bstr (le m k) := by
  intro g
  have := congrArg vl (bstr_inj _ _ g)
  rw [vl_le, vl_le, Nat.mod_eq_of_lt hn, Nat.mod_eq_of_lt hm] at this
  exact h this
theorem bstr_data (s : ByteArray) : bstr s.data.toList = s := by
  apply ByteArray.ext
  simp [bstr]
/-- what was put between two texts is got -/
theorem got_between (x y : ByteArray) (n k : Nat) (hn : n < 256 ^ k) : vl (((x ++ bstr (le n k) ++ y).data.toList.drop x.size).take k) = n := by
  have e : (x ++ bstr (le n k) ++ y).data.toList = x.data.toList ++ (le n k ++ y.data.toList) := by
    simp [ByteArray.data_append, bstr]
  have hl := le_length n k
  rw [e, List.drop_left' (size_list x), List.take_left' hl, vl_le, Nat.mod_eq_of_lt hn]
theorem vl_take_lt (s : ByteArray) (k : Nat) (h : k ≤ s.size) : vl (s.data.toList.take k) < 256 ^ k := by
  have h1 := vl_lt (s.data.toList.take k)
  have hl := size_list s
  rwa [List.length_take, show min k s.data.toList.length = k by omega] at h1
theorem put_take (s : ByteArray) (k : Nat) (h : k ≤ s.size) : bstr (le (vl (s.data.toList.take k)) k) = bstr (s.data.toList.take k) := by
  have hl := size_list s
  have e := le_vl (s.data.toList.take k)
  rw [List.length_take, show min k s.data.toList.length = k by omega] at e
  rw [e]

theorem take_extract (s : ByteArray) (k : Nat) : bstr (s.data.toList.take k) = s.extract 0 k := by
  apply ByteArray.ext
  rw [ByteArray.data_extract]
  apply Array.ext'
  simp [bstr]

end Go.Proofs.Ytnkkccieidlacaa.M
