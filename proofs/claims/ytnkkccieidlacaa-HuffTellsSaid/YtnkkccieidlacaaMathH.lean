/- How many codes a row of 15 bits begins with, in plain numbers; what Begins tells of codes. No program. -/
import Derived.Test.YtnkkccieidlacaaMathQ
namespace Go.Proofs.Ytnkkccieidlacaa.M
set_option linter.unusedVariables false

/-- does row r begin with the code of symbol i -/
def hit (l : Nat → Nat) (n r i : Nat) : Prop := l i ≠ 0 ∧ cod l n i = r / 2 ^ (15 - l i)
instance (l : Nat → Nat) (n r i : Nat) : Decidable (hit l n r i) := inferInstanceAs (Decidable (l i ≠ 0 ∧ cod l n i = r / 2 ^ (15 - l i)))
/-- with so many of the first k codes row r begins -/
def hits (l : Nat → Nat) (n r : Nat) : Nat → Nat
  | 0 => 0
  | k + 1 => hits l n r k + if hit l n r k then 1 else 0
/-- with so many of those that have length s -/
def hs (l : Nat → Nat) (n r s : Nat) : Nat → Nat
  | 0 => 0
  | k + 1 => hs l n r s k + if l k = s ∧ (s ≠ 0 ∧ cod l n k = r / 2 ^ (15 - s)) then 1 else 0
def sumS (f : Nat → Nat) : Nat → Nat
  | 0 => 0
  | m + 1 => sumS f m + f m

theorem sumS_add (f g : Nat → Nat) : ∀ m, sumS (fun s => f s + g s) m = sumS f m + sumS g m
  | 0 => rfl
  | m + 1 => by simp only [sumS]; rw [sumS_add f g m]; omega
theorem sumS_congr {f g : Nat → Nat} : ∀ m, (∀ s, s < m → f s = g s) → sumS f m = sumS g m
  | 0, _ => rfl
  | m + 1, h => by simp only [sumS]; rw [sumS_congr m (fun s hs => h s (by omega)), h m (by omega)]
theorem sumS_one (x : Nat) (P : Nat → Prop) [DecidablePred P] : ∀ m, sumS (fun s => if x = s ∧ P s then 1 else 0) m = if x < m ∧ P x then 1 else 0
  | 0 => by simp [sumS]
  | m + 1 => by
    simp only [sumS]
    rw [sumS_one x P m]
    by_cases e : x = m
    · subst e
      by_cases hp : P x <;> simp [hp]
    · by_cases hp : P x
      · by_cases hl : x < m
        · have h2 : x < m + 1 := by omega
          simp [hp, hl, h2, e]
        · have h2 : ¬ x < m + 1 := by omega
          simp [hp, hl, h2, e]
      · simp [hp, e]
theorem hits_sum (l : Nat → Nat) (n r : Nat) : ∀ k, (∀ i, i < k → l i ≤ 15) → hits l n r k = sumS (fun s => hs l n r s k) 16
  | 0, _ => by simp [hits, sumS, hs]
  | k + 1, h => by
    have h16 : l k < 16 := by have := h k (by omega); omega
    have e1 : hits l n r (k + 1) = hits l n r k + if hit l n r k then 1 else 0 := rfl
    have e2 : sumS (fun s => hs l n r s (k + 1)) 16 = sumS (fun s => hs l n r s k + if l k = s ∧ (s ≠ 0 ∧ cod l n k = r / 2 ^ (15 - s)) then 1 else 0) 16 := rfl
    have e3 := sumS_one (l k) (fun s => s ≠ 0 ∧ cod l n k = r / 2 ^ (15 - s)) 16
    rw [e1, e2, sumS_add, ← hits_sum l n r k (fun i hi => h i (by omega)), e3]
    by_cases hh : hit l n r k
    · rw [if_pos hh, if_pos (⟨h16, hh⟩ : l k < 16 ∧ (l k ≠ 0 ∧ cod l n k = r / 2 ^ (15 - l k)))]
    · rw [if_neg hh, if_neg (fun q : l k < 16 ∧ (l k ≠ 0 ∧ cod l n k = r / 2 ^ (15 - l k)) => hh q.2)]
theorem hs_of (l : Nat → Nat) (n r s : Nat) (h0 : s ≠ 0) : ∀ k, hs l n r s k = if fs (c0 l n) s ≤ r / 2 ^ (15 - s) ∧ r / 2 ^ (15 - s) < fs (c0 l n) s + cnt l s k then 1 else 0
  | 0 => by
    have e2 : cnt l s 0 = 0 := rfl
    rw [if_neg (by omega)]; rfl
  | k + 1 => by
    have e1 : hs l n r s (k + 1) = hs l n r s k + if l k = s ∧ (s ≠ 0 ∧ cod l n k = r / 2 ^ (15 - s)) then 1 else 0 := rfl
    have e2 : cnt l s (k + 1) = cnt l s k + if l k = s then 1 else 0 := rfl
    rw [e1, hs_of l n r s h0 k]
    by_cases e : l k = s
    · have hc : cod l n k = fs (c0 l n) s + cnt l s k := by unfold cod; rw [e, if_neg h0]
      rw [if_pos e] at e2
      by_cases a : cod l n k = r / 2 ^ (15 - s)
      · rw [if_pos (show l k = s ∧ s ≠ 0 ∧ cod l n k = r / 2 ^ (15 - s) from ⟨e, h0, a⟩), if_neg (by omega), if_pos (by omega)]
      · rw [if_neg (show ¬ (l k = s ∧ s ≠ 0 ∧ cod l n k = r / 2 ^ (15 - s)) from fun q => a q.2.2)]
        by_cases b : fs (c0 l n) s ≤ r / 2 ^ (15 - s) ∧ r / 2 ^ (15 - s) < fs (c0 l n) s + cnt l s k
        · rw [if_pos b, if_pos (by omega)]
        · rw [if_neg b, if_neg (by omega)]
    · rw [if_neg e] at e2
      rw [if_neg (show ¬ (l k = s ∧ s ≠ 0 ∧ cod l n k = r / 2 ^ (15 - s)) from fun q => e q.1), show cnt l s (k + 1) = cnt l s k from e2]; rfl
theorem hs_zero (l : Nat → Nat) (n r : Nat) : ∀ k, hs l n r 0 k = 0
  | 0 => rfl
  | k + 1 => by
    have e1 : hs l n r 0 (k + 1) = hs l n r 0 k + if l k = 0 ∧ (0 ≠ 0 ∧ cod l n k = r / 2 ^ (15 - 0)) then 1 else 0 := rfl
    rw [e1, hs_zero l n r k, if_neg (fun q => q.2.1 rfl)]
theorem hs_aw (l : Nat → Nat) (n r s : Nat) (h : s ≤ 15) : hs l n r s n = if aw (c0 l n) s ≤ r ∧ r < aw (c0 l n) (s + 1) then 1 else 0 := by
  by_cases h0 : s = 0
  · subst h0
    rw [hs_zero]
    have : aw (c0 l n) (0 + 1) = 0 := by simp [aw, c0]
    rw [this, if_neg (by omega)]
  · rw [hs_of l n r s h0]
    have hc : cnt l s n = c0 l n s := by unfold c0; rw [if_neg h0]
    have h1 : fs (c0 l n) s ≤ r / 2 ^ (15 - s) ↔ aw (c0 l n) s ≤ r := by
      rw [Nat.le_div_iff_mul_le (Nat.two_pow_pos _), fs_aw _ s h]
    have h2 : r / 2 ^ (15 - s) < fs (c0 l n) s + c0 l n s ↔ r < aw (c0 l n) (s + 1) := by
      rw [Nat.div_lt_iff_lt_mul (Nat.two_pow_pos _), fs_end _ s h]
    rw [hc]
    simp only [h1, h2]
theorem tele (c : Nat → Nat) (r : Nat) : ∀ m, sumS (fun s => if aw c s ≤ r ∧ r < aw c (s + 1) then 1 else 0) m = if r < aw c m then 1 else 0
  | 0 => by simp [sumS, aw]
  | m + 1 => by
    simp only [sumS]
    rw [tele c r m]
    have := aw_mono c (show m ≤ m + 1 by omega)
    by_cases a : r < aw c m
    · rw [if_pos a, if_neg (by omega), if_pos (by omega)]
    · by_cases b : r < aw c (m + 1)
      · rw [if_neg a, if_pos ⟨by omega, b⟩, if_pos b]
      · rw [if_neg a, if_neg (fun q => b q.2), if_neg b]
/-- A row begins with one code, if it lies below what all weigh, else with none. -/
theorem hits_all {l : Nat → Nat} {n : Nat} (r : Nat) (hm : May l n) : hits l n r n = if r < weight l n then 1 else 0 := by
  rw [hits_sum l n r n hm.2, sumS_congr 16 (fun s hs' => hs_aw l n r s (by omega)), tele, aw_weight l n hm.2]
theorem hits_le (l : Nat → Nat) (n r : Nat) : ∀ k, hits l n r k ≤ k
  | 0 => Nat.le_refl _
  | k + 1 => by have := hits_le l n r k; simp only [hits]; split <;> omega
theorem kind_two {l : Nat → Nat} {n : Nat} (h : kind l n = 2) : weight l n = 32768 := by
  have hm := kind_may (show kind l n ≠ 5 by omega)
  rw [kind_of hm] at h
  by_cases a : weight l n = 0
  · rw [if_pos a] at h; omega
  · rw [if_neg a] at h
    by_cases b : 32768 < weight l n
    · rw [if_pos b] at h; omega
    · rw [if_neg b] at h
      by_cases c : weight l n = 32768
      · exact c
      · rw [if_neg c] at h; split at h <;> omega
theorem kind_zero {l : Nat → Nat} {n : Nat} (h : kind l n = 0) : weight l n = 0 := by
  have hm := kind_may (show kind l n ≠ 5 by omega)
  rw [kind_of hm] at h
  by_cases a : weight l n = 0
  · exact a
  · rw [if_neg a] at h
    by_cases b : 32768 < weight l n
    · rw [if_pos b] at h; omega
    · rw [if_neg b] at h
      by_cases c : weight l n = 32768
      · rw [if_pos c] at h; omega
      · rw [if_neg c] at h; split at h <;> omega
theorem kind_part {l : Nat → Nat} {n : Nat} (h5 : kind l n ≠ 5) (h4 : kind l n ≠ 4) (h2 : kind l n ≠ 2) : weight l n < 32768 := by
  obtain ⟨hm, hw⟩ := kind_fits h5 h4
  rcases Nat.lt_or_ge (weight l n) 32768 with g | g
  · exact g
  · have e : weight l n = 32768 := by omega
    exfalso
    apply h2
    rw [kind_of hm, if_neg (by omega), if_neg (by omega), if_pos e]
end Go.Proofs.Ytnkkccieidlacaa.M
