/- Bits that were written stay: what a call leaves of what was there. No program. -/
import Derived.Test.YtilogllncjlkfaaMathR
namespace Go.Proofs.Ytilogllncjlkfaa.M
open Go
set_option linter.unusedVariables false

/-- What a call leaves: more bits behind those that were there, if it is not refused. -/
theorem stays_step (m V L : Nat) (d n z : Int) (s : ByteArray) (hL : (L + 7) / 8 ≤ m) (E : Int) (V1 L1 : Nat) (hE : callR m V L d n z s = (E, V1, L1)) :
    (L1 + 7) / 8 ≤ m ∧ L ≤ L1 ∧ (∃ x, V1 = V + x * 2 ^ L) ∧ (E = 0 ∨ (E ≠ 0 ∧ V1 = V ∧ L1 = L)) := by
  by_cases h5 : d % 8 = 5
  · rw [callR_5 h5] at hE
    simp only [Prod.mk.injEq] at hE
    obtain ⟨rfl, rfl, rfl⟩ := hE
    exact ⟨by unfold alignL; omega, align_ge L, ⟨0, by simp⟩, .inl rfl⟩
  · by_cases h6 : d % 8 = 6 ∨ d % 8 = 7
    · rw [callR_67 h6] at hE
      by_cases hr : (((L + 7) / 8 + s.size : Nat) : Int) ≤ (m : Int)
      · rw [bytesR_yes hr] at hE
        simp only [Prod.mk.injEq] at hE
        obtain ⟨rfl, rfl, rfl⟩ := hE
        refine ⟨by unfold alignL; omega, by have := align_ge L; omega, ⟨vl s.data.toList * 2 ^ (alignL L - L), ?_⟩, .inl rfl⟩
        rw [Nat.mul_assoc, ← Nat.pow_add, Nat.sub_add_cancel (align_ge L)]
      · rw [bytesR_full hr] at hE
        simp only [Prod.mk.injEq] at hE
        obtain ⟨rfl, rfl, rfl⟩ := hE
        exact ⟨hL, Nat.le_refl _, ⟨0, by simp⟩, .inr ⟨by decide, rfl, rfl⟩⟩
    · rw [callR_0 h5 h6] at hE
      by_cases hx : 0 ≤ z ∧ z ≤ 56 ∧ n.toNat < 2 ^ z.toNat
      · obtain ⟨z', rfl⟩ := Int.eq_ofNat_of_zero_le hx.1
        obtain ⟨_, h2, h3⟩ := hx
        rw [Int.toNat_natCast] at h3
        by_cases hr : (((L + z' + 7) / 8 : Nat) : Int) ≤ (m : Int)
        · rw [bitsR_yes (by omega) h3 hr] at hE
          simp only [Prod.mk.injEq] at hE
          obtain ⟨rfl, rfl, rfl⟩ := hE
          exact ⟨by omega, by omega, ⟨n.toNat, rfl⟩, .inl rfl⟩
        · rw [bitsR_full (by omega) h3 hr] at hE
          simp only [Prod.mk.injEq] at hE
          obtain ⟨rfl, rfl, rfl⟩ := hE
          exact ⟨hL, Nat.le_refl _, ⟨0, by simp⟩, .inr ⟨by decide, rfl, rfl⟩⟩
      · rw [bitsR_arg hx] at hE
        simp only [Prod.mk.injEq] at hE
        obtain ⟨rfl, rfl, rfl⟩ := hE
        exact ⟨hL, Nat.le_refl _, ⟨0, by simp⟩, .inr ⟨by decide, rfl, rfl⟩⟩

/-- The whole bytes that were there are those that are there. -/
theorem le_same {V L x q : Nat} (h : 8 * q ≤ L) : le (V + x * 2 ^ L) q = le V q := by
  rw [← bys_le, ← bys_le, bys_same h]
theorem le_take (n a b : Nat) (h : a ≤ b) : (le n b).take a = le n a := by
  obtain ⟨c, rfl⟩ : ∃ c, b = a + c := ⟨b - a, by omega⟩
  rw [le_add, List.take_left' (le_length n a)]
theorem text_take {V L q : Nat} (h : q ≤ (L + 7) / 8) : (textR V L).data.toList.take q = le V q := by
  have e : (textR V L).data.toList = le V ((L + 7) / 8) := by simp [textR, bstr]
  rw [e, le_take V q _ h]
/-- byte q of a text -/
theorem text_at {V L q : Nat} (h : q < (textR V L).size) : ((textR V L)[q].toNat : Nat) = V / 256 ^ q % 256 := by
  have hs := text_size V L
  have e : (textR V L).data.toList = le V ((L + 7) / 8) := by simp [textR, bstr]
  have h2 := byte_at (textR V L) q h
  have h3 : (le V ((L + 7) / 8))[q]? = some (UInt8.ofNat (V / 256 ^ q % 256)) := by
    rw [le_eq, List.getElem?_map, List.getElem?_range (by omega)]
    rfl
  rw [← e, List.getElem?_eq_getElem (by rw [size_list]; exact h), h2] at h3
  have h4 : (textR V L)[q] = UInt8.ofNat (V / 256 ^ q % 256) := by injection h3
  rw [h4]
  simp
/-- The bits of the byte that was begun. -/
theorem rest_same {V L x : Nat} (hV : V < 2 ^ L) : (V + x * 2 ^ L) / 256 ^ (L / 8) % 256 % 2 ^ (L % 8) = V / 256 ^ (L / 8) % 256 := by
  have hw := wait_lt (k := L / 8) hV (by omega)
  rw [show L - 8 * (L / 8) = L % 8 by omega] at hw
  have hp : 2 ^ (L % 8) ≤ 2 ^ 7 := pow_small (by omega)
  have e7 : (2 : Nat) ^ 7 = 128 := by decide
  have hd : 2 ^ (L % 8) ∣ 256 := by
    rw [show 256 = 2 ^ 8 by decide]
    exact Nat.pow_dvd_pow 2 (by omega)
  rw [Nat.mod_mod_of_dvd _ hd, more_div (by omega), show L - 8 * (L / 8) = L % 8 by omega, Nat.add_mul_mod_self_right, Nat.mod_eq_of_lt hw, Nat.mod_eq_of_lt (by omega)]
end Go.Proofs.Ytilogllncjlkfaa.M
