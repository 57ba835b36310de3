/- What a call answers, of a writer with less room and of one with more. No program. -/
import Derived.Test.YtilogllncjlkfaaMathW
namespace Go.Proofs.Ytilogllncjlkfaa.M
open Go
set_option linter.unusedVariables false

/-- What a call answers: which, a number, a size, a text. -/
def callR (most : Int) (V L : Nat) (d n z : Int) (s : ByteArray) : Int × Nat × Nat :=
  if d % 8 = 5 then (0, V, alignL L) else if d % 8 = 6 ∨ d % 8 = 7 then bytesR most V L s else bitsR most V L n.toNat z

theorem callR_5 {most : Int} {V L : Nat} {d n z : Int} {s : ByteArray} (h : d % 8 = 5) : callR most V L d n z s = (0, V, alignL L) := if_pos h
theorem callR_67 {most : Int} {V L : Nat} {d n z : Int} {s : ByteArray} (h : d % 8 = 6 ∨ d % 8 = 7) : callR most V L d n z s = bytesR most V L s := by
  unfold callR; rw [if_neg (by omega), if_pos h]
theorem callR_0 {most : Int} {V L : Nat} {d n z : Int} {s : ByteArray} (h5 : ¬ d % 8 = 5) (h : ¬ (d % 8 = 6 ∨ d % 8 = 7)) : callR most V L d n z s = bitsR most V L n.toNat z := by
  unfold callR; rw [if_neg h5, if_neg h]

/-- A call of a writer with room for m bytes, and of one with room for 65,536. -/
theorem room_step (m V L : Nat) (d n z : Int) (s : ByteArray) (hm : m ≤ 255) (hL : (L + 7) / 8 ≤ m) (hs : s.size ≤ 4096) (E : Int) (V1 L1 : Nat) (hE : callR m V L d n z s = (E, V1, L1)) (F : Int) (V2 L2 : Nat) (hF : callR 65536 V L d n z s = (F, V2, L2)) :
    (E = 4 ∧ F = 0 ∧ m < (L2 + 7) / 8 ∧ L2 ≤ 100000) ∨ (E ≠ 4 ∧ F = E ∧ V2 = V1 ∧ L2 = L1 ∧ (L1 + 7) / 8 ≤ m) := by
  by_cases h5 : d % 8 = 5
  · rw [callR_5 h5] at hE hF
    simp only [Prod.mk.injEq] at hE hF
    obtain ⟨rfl, rfl, rfl⟩ := hE
    obtain ⟨rfl, rfl, rfl⟩ := hF
    exact .inr ⟨by decide, rfl, rfl, rfl, by unfold alignL; omega⟩
  · by_cases h6 : d % 8 = 6 ∨ d % 8 = 7
    · rw [callR_67 h6] at hE hF
      rw [bytesR_yes (by omega)] at hF
      simp only [Prod.mk.injEq] at hF
      obtain ⟨rfl, rfl, rfl⟩ := hF
      by_cases hr : (((L + 7) / 8 + s.size : Nat) : Int) ≤ (m : Int)
      · rw [bytesR_yes hr] at hE
        simp only [Prod.mk.injEq] at hE
        obtain ⟨rfl, rfl, rfl⟩ := hE
        exact .inr ⟨by decide, rfl, rfl, rfl, by unfold alignL; omega⟩
      · rw [bytesR_full hr] at hE
        simp only [Prod.mk.injEq] at hE
        obtain ⟨rfl, rfl, rfl⟩ := hE
        exact .inl ⟨rfl, rfl, by unfold alignL; omega, by unfold alignL; omega⟩
    · rw [callR_0 h5 h6] at hE hF
      by_cases hx : 0 ≤ z ∧ z ≤ 56 ∧ n.toNat < 2 ^ z.toNat
      · obtain ⟨z', rfl⟩ := Int.eq_ofNat_of_zero_le hx.1
        obtain ⟨_, h2, h3⟩ := hx
        rw [Int.toNat_natCast] at h3
        rw [bitsR_yes (by omega) h3 (by omega)] at hF
        simp only [Prod.mk.injEq] at hF
        obtain ⟨rfl, rfl, rfl⟩ := hF
        by_cases hr : (((L + z' + 7) / 8 : Nat) : Int) ≤ (m : Int)
        · rw [bitsR_yes (by omega) h3 hr] at hE
          simp only [Prod.mk.injEq] at hE
          obtain ⟨rfl, rfl, rfl⟩ := hE
          exact .inr ⟨by decide, rfl, rfl, rfl, by omega⟩
        · rw [bitsR_full (by omega) h3 hr] at hE
          simp only [Prod.mk.injEq] at hE
          obtain ⟨rfl, rfl, rfl⟩ := hE
          exact .inl ⟨rfl, rfl, by omega, by omega⟩
      · rw [bitsR_arg hx] at hE hF
        simp only [Prod.mk.injEq] at hE hF
        obtain ⟨rfl, rfl, rfl⟩ := hE
        obtain ⟨rfl, rfl, rfl⟩ := hF
        exact .inr ⟨by decide, rfl, rfl, rfl, hL⟩
end Go.Proofs.Ytilogllncjlkfaa.M
