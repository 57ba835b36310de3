/- What pieces become, written one behind the other, and that they are read so. No program. -/
import Derived.Test.YtnkkccieidlacaaMathW
import Derived.Test.YtnkkccieidlacaaMathV
namespace Go.Proofs.Ytnkkccieidlacaa.M
open Go
set_option linter.unusedVariables false

/-- A piece written behind the bits of x.1, x.2 of them: a text, or the lowest k bits of a number. -/
def pcw (x : Nat × Nat) (t : Bool) (N k : Nat) (s : ByteArray) : Nat × Nat :=
  if t then (x.1 + vl s.data.toList * 2 ^ alignL x.2, alignL x.2 + 8 * s.size) else (x.1 + N % 2 ^ k * 2 ^ x.2, x.2 + k)

theorem pcw_text {x : Nat × Nat} {N k : Nat} {s : ByteArray} : pcw x true N k s = (x.1 + vl s.data.toList * 2 ^ alignL x.2, alignL x.2 + 8 * s.size) := rfl
theorem pcw_num {x : Nat × Nat} {N k : Nat} {s : ByteArray} : pcw x false N k s = (x.1 + N % 2 ^ k * 2 ^ x.2, x.2 + k) := rfl

theorem pcw_ge (x : Nat × Nat) (t : Bool) (N k : Nat) (s : ByteArray) : x.2 ≤ (pcw x t N k s).2 := by
  cases t
  · rw [pcw_num]; exact Nat.le_add_right _ _
  · rw [pcw_text]; have := align_ge x.2; show x.2 ≤ alignL x.2 + 8 * s.size; omega
theorem pcw_lt (x : Nat × Nat) (h : x.1 < 2 ^ x.2) (t : Bool) (N k : Nat) (s : ByteArray) : (pcw x t N k s).1 < 2 ^ (pcw x t N k s).2 := by
  cases t
  · rw [pcw_num]; exact more_lt h (Nat.mod_lt _ (Nat.two_pow_pos k))
  · rw [pcw_text]
    have hv := vl_lt s.data.toList
    rw [size_list, p256] at hv
    exact more_lt (val_align h) hv
theorem mod_self_more (V X L A : Nat) (h : V < 2 ^ L) (hA : L ≤ A) : (V + X * 2 ^ A) % 2 ^ L = V := by
  rw [show A = L + (A - L) by omega, Nat.pow_add, Nat.mul_left_comm, Nat.add_mul_mod_self_left, Nat.mod_eq_of_lt h]
theorem pcw_mod (x : Nat × Nat) (h : x.1 < 2 ^ x.2) (t : Bool) (N k : Nat) (s : ByteArray) : (pcw x t N k s).1 % 2 ^ x.2 = x.1 := by
  cases t
  · rw [pcw_num]; exact mod_self_more _ _ _ _ h (Nat.le_refl _)
  · rw [pcw_text]; exact mod_self_more _ _ _ _ h (align_ge _)
theorem pcw_len (x : Nat × Nat) (t : Bool) (N k : Nat) (s : ByteArray) (hk : k ≤ 56) : (pcw x t N k s).2 ≤ x.2 + 64 + 8 * s.size := by
  cases t
  · rw [pcw_num]; show x.2 + k ≤ _; omega
  · rw [pcw_text]; have := align_lt x.2; show alignL x.2 + 8 * s.size ≤ _; omega

/-- The bits of V begin with those of V1, L1 of them. -/
def Begins (V L V1 L1 : Nat) : Prop := V % 2 ^ L1 = V1 ∧ L1 ≤ L
theorem Begins.step {V L : Nat} {x : Nat × Nat} {t : Bool} {N k : Nat} {s : ByteArray} (hx : x.1 < 2 ^ x.2) (h : Begins V L (pcw x t N k s).1 (pcw x t N k s).2) : Begins V L x.1 x.2 := by
  have hg := pcw_ge x t N k s
  refine ⟨?_, Nat.le_trans hg h.2⟩
  have := pcw_mod x hx t N k s
  rw [← h.1] at this
  rw [← this, show (pcw x t N k s).2 = x.2 + ((pcw x t N k s).2 - x.2) by omega, Nat.pow_add, Nat.mod_mul_right_mod]

/-- a number that was written is there -/
theorem Begins.num {V L V1 L1 N k : Nat} {s : ByteArray} (hx : V1 < 2 ^ L1) (h : Begins V L (pcw (V1, L1) false N k s).1 (pcw (V1, L1) false N k s).2) : V / 2 ^ L1 % 2 ^ k = N % 2 ^ k := by
  have h1 : V % 2 ^ (L1 + k) = V1 + N % 2 ^ k * 2 ^ L1 := h.1
  rw [← Nat.mod_mul_right_div_self, ← Nat.pow_add, h1, Nat.add_mul_div_right _ _ (Nat.two_pow_pos L1), Nat.div_eq_of_lt hx, Nat.zero_add]
/-- a text that was written is there -/
theorem Begins.text {V L V1 L1 N k : Nat} {s : ByteArray} (hx : V1 < 2 ^ L1) (h : Begins V L (pcw (V1, L1) true N k s).1 (pcw (V1, L1) true N k s).2) : V / 2 ^ alignL L1 % 2 ^ (8 * s.size) = vl s.data.toList := by
  have h1 : V % 2 ^ (alignL L1 + 8 * s.size) = V1 + vl s.data.toList * 2 ^ alignL L1 := h.1
  rw [← Nat.mod_mul_right_div_self, ← Nat.pow_add, h1, Nat.add_mul_div_right _ _ (Nat.two_pow_pos _), Nat.div_eq_of_lt (val_align hx), Nat.zero_add]

/-! The text that bits are -/
theorem tx_text (V L : Nat) (h : V < 2 ^ L) : tx (textR V L) = V := by
  have e : (textR V L).data.toList = le V ((L + 7) / 8) := by simp [textR, bstr]
  unfold tx
  rw [e, vl_le, ← pow_align, Nat.mod_eq_of_lt (val_align h)]
theorem nb_text (V L a n : Nat) (h : V < 2 ^ L) : nb (textR V L) a n = V / 2 ^ a % 2 ^ n := by unfold nb; rw [tx_text V L h]
theorem extract_text (V L q : Nat) (s : ByteArray) (hq : q + s.size ≤ (L + 7) / 8) (h : V / 2 ^ (8 * q) % 2 ^ (8 * s.size) = vl s.data.toList) : (textR V L).extract q (q + s.size) = s := by
  have e : (textR V L).data.toList = le V ((L + 7) / 8) := by simp [textR, bstr]
  apply ByteArray.ext
  apply Array.ext'
  rw [ByteArray.data_extract, Array.toList_extract, List.extract_eq_take_drop, e, show q + s.size - q = s.size by omega, show (L + 7) / 8 = q + (s.size + ((L + 7) / 8 - q - s.size)) by omega, le_add, le_add,
    List.drop_left' (le_length _ _), List.take_left' (le_length _ _), p256, ← le_mod, p256, h]
  have := le_vl s.data.toList
  rw [size_list] at this
  exact this
theorem rest_zero (V L n : Nat) (h : V < 2 ^ L) : nb (textR V L) L n = 0 := by
  rw [nb_text V L L n h, Nat.div_eq_of_lt h, Nat.zero_mod]
end Go.Proofs.Ytnkkccieidlacaa.M
