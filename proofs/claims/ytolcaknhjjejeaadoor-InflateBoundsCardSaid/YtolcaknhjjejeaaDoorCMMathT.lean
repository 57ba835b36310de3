/- Texts of one place, one behind the other: MathT, MathQ, MathH. -/
import Derived.Laws.OwnMore
namespace Go.Proofs.YtolcaknhjjejeaaDoor.M
set_option linter.unusedVariables false
inductive Th
  | lf (w s : Nat)
  | pk (a b : Th)
namespace Th
end Th
end Go.Proofs.YtolcaknhjjejeaaDoor.M

namespace Go.Proofs.YtolcaknhjjejeaaDoor.M
set_option linter.unusedVariables false
def cnt (l : Nat → Nat) (s : Nat) : Nat → Nat
  | 0 => 0
  | k + 1 => cnt l s k + if l k = s then 1 else 0
def wt (x : Nat) : Nat := if x = 0 then 0 else 2 ^ (15 - x)
def weight (l : Nat → Nat) : Nat → Nat
  | 0 => 0
  | k + 1 => weight l k + wt (l k)
def c0 (l : Nat → Nat) (n s : Nat) : Nat := if s = 0 then 0 else cnt l s n
def aw (c : Nat → Nat) : Nat → Nat
  | 0 => 0
  | s + 1 => aw c s + c s * 2 ^ (15 - s)
def fs (c : Nat → Nat) : Nat → Nat
  | 0 => 0
  | s + 1 => (fs c s + c s) * 2
def cod (l : Nat → Nat) (n i : Nat) : Nat := if l i = 0 then 0 else fs (c0 l n) (l i) + cnt l (l i) i
def May (l : Nat → Nat) (n : Nat) : Prop := n ≤ 320 ∧ ∀ i, i < n → l i ≤ 15
instance (l : Nat → Nat) (n : Nat) : Decidable (May l n) := inferInstanceAs (Decidable (n ≤ 320 ∧ ∀ i, i < n → l i ≤ 15))
def kind (l : Nat → Nat) (n : Nat) : Nat := if May l n then (if weight l n = 0 then 0 else if 32768 < weight l n then 4 else if weight l n = 32768 then 2 else if c0 l n 1 = 1 ∧ weight l n = 16384 then 1 else 3) else 5
def erc (l : Nat → Nat) (n : Nat) : Nat := if kind l n = 5 then 2 else if kind l n = 4 then 7 else 0
def outn (l : Nat → Nat) (n : Nat) : Nat := if erc l n = 0 then n else 0
theorem kind_bad {l : Nat → Nat} {n : Nat} (h : ¬ May l n) : kind l n = 5 := by unfold kind; rw [if_neg h]
theorem kind_of {l : Nat → Nat} {n : Nat} (h : May l n) : kind l n = if weight l n = 0 then 0 else if 32768 < weight l n then 4 else if weight l n = 32768 then 2 else if c0 l n 1 = 1 ∧ weight l n = 16384 then 1 else 3 := by unfold kind; rw [if_pos h]
theorem kind_may {l : Nat → Nat} {n : Nat} (h : kind l n ≠ 5) : May l n := by
  apply Classical.byContradiction
  intro g
  exact h (kind_bad g)
theorem kind_le (l : Nat → Nat) (n : Nat) : kind l n ≤ 5 := by
  by_cases h : May l n
  · rw [kind_of h]; repeat' split
    all_goals omega
  · rw [kind_bad h]; omega
theorem kind_fits {l : Nat → Nat} {n : Nat} (h5 : kind l n ≠ 5) (h4 : kind l n ≠ 4) : May l n ∧ weight l n ≤ 32768 := by
  have hm := kind_may h5
  refine ⟨hm, ?_⟩
  rw [kind_of hm] at h4
  by_cases h0 : weight l n = 0
  · omega
  · rw [if_neg h0] at h4
    by_cases h1 : 32768 < weight l n
    · rw [if_pos h1] at h4; omega
    · omega
theorem cnt_le (l : Nat → Nat) (s : Nat) : ∀ k, cnt l s k ≤ k
  | 0 => Nat.le_refl _
  | k + 1 => by
    have := cnt_le l s k
    simp only [cnt]; split <;> omega
theorem cnt_mono (l : Nat → Nat) (s : Nat) {j k : Nat} (h : j ≤ k) : cnt l s j ≤ cnt l s k := by
  induction k with
  | zero => obtain rfl : j = 0 := by omega
            exact Nat.le_refl _
  | succ k ih =>
    by_cases e : j = k + 1
    · subst e; exact Nat.le_refl _
    · have := ih (by omega)
      simp only [cnt]; omega
theorem cnt_lt (l : Nat → Nat) {i k : Nat} (h : i < k) : cnt l (l i) i < cnt l (l i) k := by
  have h1 : cnt l (l i) (i + 1) = cnt l (l i) i + 1 := by simp [cnt]
  have h2 := cnt_mono l (l i) (show i + 1 ≤ k from h)
  omega
theorem wt_pos {x : Nat} (h : x ≠ 0) : 1 ≤ wt x := by unfold wt; rw [if_neg h]; exact Nat.one_le_two_pow
theorem c0_le (l : Nat → Nat) (n s : Nat) : c0 l n s ≤ n := by unfold c0; split; omega; exact cnt_le l s n
theorem aw_succ_n (l : Nat → Nat) (n : Nat) : ∀ m, aw (c0 l (n + 1)) m = aw (c0 l n) m + if l n < m then wt (l n) else 0
  | 0 => by simp [aw]
  | m + 1 => by
    simp only [aw]
    rw [aw_succ_n l n m]
    have hc : c0 l (n + 1) m * 2 ^ (15 - m) = c0 l n m * 2 ^ (15 - m) + if l n = m then wt m else 0 := by
      unfold c0 wt
      by_cases h0 : m = 0
      · rw [if_pos h0, if_pos h0, if_pos h0]; split <;> simp
      · rw [if_neg h0, if_neg h0, if_neg h0]
        simp only [cnt]
        split
        · rw [Nat.add_mul, Nat.one_mul]
        · simp
    rw [hc]
    by_cases h1 : l n < m
    · have h2 : ¬ l n = m := by omega
      have h3 : l n < m + 1 := by omega
      rw [if_pos h1, if_neg h2, if_pos h3]; omega
    · by_cases h2 : l n = m
      · have h3 : l n < m + 1 := by omega
        rw [if_neg h1, if_pos h2, if_pos h3, h2]; omega
      · have h3 : ¬ l n < m + 1 := by omega
        rw [if_neg h1, if_neg h2, if_neg h3]; omega
theorem aw_none (l : Nat → Nat) : ∀ m, aw (c0 l 0) m = 0
  | 0 => rfl
  | m + 1 => by simp only [aw]; rw [aw_none l m]; unfold c0; split <;> simp [cnt]
theorem aw_weight (l : Nat → Nat) : ∀ n, (∀ i, i < n → l i ≤ 15) → aw (c0 l n) 16 = weight l n
  | 0, _ => aw_none l 16
  | n + 1, h => by
    have h1 := h n (by omega)
    rw [aw_succ_n, if_pos (show l n < 16 by omega), aw_weight l n (fun i hi => h i (by omega))]; rfl
theorem aw_mono (c : Nat → Nat) {s t : Nat} (h : s ≤ t) : aw c s ≤ aw c t := by
  induction t with
  | zero => obtain rfl : s = 0 := by omega
            exact Nat.le_refl _
  | succ t ih =>
    by_cases e : s = t + 1
    · subst e; exact Nat.le_refl _
    · have := ih (by omega)
      simp only [aw]
      exact Nat.le_trans this (Nat.le_add_right _ _)
theorem fs_aw (c : Nat → Nat) : ∀ s, s ≤ 15 → fs c s * 2 ^ (15 - s) = aw c s
  | 0, _ => by simp [fs, aw]
  | s + 1, h => by
    have h1 := fs_aw c s (by omega)
    have h2 : 2 ^ (15 - s) = 2 * 2 ^ (15 - (s + 1)) := by rw [show 15 - s = (15 - (s + 1)) + 1 by omega, Nat.pow_succ]; omega
    simp only [fs, aw]
    rw [← h1, Nat.mul_assoc, ← h2, Nat.add_mul]
theorem fs_end (c : Nat → Nat) (s : Nat) (h : s ≤ 15) : (fs c s + c s) * 2 ^ (15 - s) = aw c (s + 1) := by
  rw [Nat.add_mul, fs_aw c s h]; rfl
theorem fs_le {c : Nat → Nat} {s : Nat} (h : s ≤ 15) (hw : aw c 16 ≤ 32768) : fs c s + c s ≤ 2 ^ s := by
  have h1 := fs_end c s h
  have h2 := aw_mono c (show s + 1 ≤ 16 by omega)
  have h3 : (fs c s + c s) * 2 ^ (15 - s) ≤ 2 ^ s * 2 ^ (15 - s) := by
    rw [h1, ← Nat.pow_add, show s + (15 - s) = 15 by omega]
    exact Nat.le_trans h2 hw
  exact Nat.le_of_mul_le_mul_right h3 (Nat.two_pow_pos _)
theorem fs_small {c : Nat → Nat} (hc : ∀ s, s < 16 → c s ≤ 320) : ∀ s, s ≤ 16 → fs c s + 640 ≤ 640 * 2 ^ s
  | 0, _ => by simp [fs]
  | s + 1, h => by
    have h1 := fs_small hc s (by omega)
    have h2 := hc s (by omega)
    rw [Nat.pow_succ]
    simp only [fs]; omega
theorem aw_small {c : Nat → Nat} (hc : ∀ s, s < 16 → c s ≤ 320) : ∀ s, s ≤ 16 → aw c s ≤ s * 10485760
  | 0, _ => by simp [aw]
  | s + 1, h => by
    have h1 := aw_small hc s (by omega)
    have h2 : c s * 2 ^ (15 - s) ≤ 320 * 2 ^ 15 := Nat.mul_le_mul (hc s (by omega)) (Nat.pow_le_pow_right (by omega) (by omega))
    simp only [aw]; omega
def nz (l : Nat → Nat) : Nat → Nat
  | 0 => 0
  | k + 1 => nz l k + if l k = 0 then 0 else 1
def lst (l : Nat → Nat) : Nat → Nat
  | 0 => 0
  | k + 1 => if l k = 0 then lst l k else l k
theorem nz_facts (l : Nat → Nat) : ∀ k, cnt l 1 k ≤ nz l k ∧ 16384 * cnt l 1 k + (nz l k - cnt l 1 k) ≤ weight l k ∧ (nz l k = 0 → weight l k = 0) ∧ (nz l k = 1 → weight l k = wt (lst l k) ∧ cnt l 1 k = if lst l k = 1 then 1 else 0)
  | 0 => by simp [cnt, nz, weight]
  | k + 1 => by
    obtain ⟨h1, h2, h3, h4⟩ := nz_facts l k
    by_cases h0 : l k = 0
    · have e : wt (l k) = 0 := by unfold wt; rw [if_pos h0]
      have e1 : ¬ l k = 1 := by omega
      have e2 : lst l (k + 1) = lst l k := by simp only [lst]; rw [if_pos h0]
      rw [e2]
      simp only [cnt, nz, weight]
      rw [if_pos h0, if_neg e1, e]
      exact ⟨h1, h2, h3, h4⟩
    · have hp := wt_pos h0
      have e2 : lst l (k + 1) = l k := by simp only [lst]; rw [if_neg h0]
      rw [e2]
      by_cases e1 : l k = 1
      · have e : wt (l k) = 16384 := by rw [e1]; rfl
        simp only [cnt, nz, weight]
        rw [if_neg h0, if_pos e1, e]
        refine ⟨by omega, by omega, by omega, fun g => ?_⟩
        have g0 : nz l k = 0 := by omega
        have g1 := h3 g0
        exact ⟨by omega, by omega⟩
      · simp only [cnt, nz, weight]
        rw [if_neg h0, if_neg e1]
        refine ⟨by omega, by omega, by omega, fun g => ?_⟩
        have g0 : nz l k = 0 := by omega
        have g1 := h3 g0
        exact ⟨by omega, by omega⟩
theorem cod_lt {l : Nat → Nat} {n i : Nat} (hm : May l n) (hw : weight l n ≤ 32768) (hi : i < n) : cod l n i < 2 ^ l i ∨ l i = 0 := by
  by_cases h0 : l i = 0
  · exact .inr h0
  · refine .inl ?_
    have h1 := hm.2 i hi
    have h2 := fs_le (c := c0 l n) h1 (by rw [aw_weight l n hm.2]; exact hw)
    have h3 := cnt_lt l hi
    have h4 : c0 l n (l i) = cnt l (l i) n := by unfold c0; rw [if_neg h0]
    unfold cod
    rw [if_neg h0]; omega
theorem cod_fit {l : Nat → Nat} {n i : Nat} (hm : May l n) (hw : weight l n ≤ 32768) (hi : i < n) : cod l n i < 2 ^ l i := by
  rcases cod_lt hm hw hi with h | h
  · exact h
  · unfold cod; rw [if_pos h, h]; decide
theorem cod_small {l : Nat → Nat} {n i : Nat} (hm : May l n) (hw : weight l n ≤ 32768) (hi : i < n) : cod l n i < 32768 :=
  Nat.lt_of_lt_of_le (cod_fit hm hw hi) (Nat.pow_le_pow_right (by omega) (hm.2 i hi) : 2 ^ l i ≤ 2 ^ 15)
end Go.Proofs.YtolcaknhjjejeaaDoor.M

namespace Go.Proofs.YtolcaknhjjejeaaDoor.M
set_option linter.unusedVariables false
def hit (l : Nat → Nat) (n r i : Nat) : Prop := l i ≠ 0 ∧ cod l n i = r / 2 ^ (15 - l i)
instance (l : Nat → Nat) (n r i : Nat) : Decidable (hit l n r i) := inferInstanceAs (Decidable (l i ≠ 0 ∧ cod l n i = r / 2 ^ (15 - l i)))
def hits (l : Nat → Nat) (n r : Nat) : Nat → Nat
  | 0 => 0
  | k + 1 => hits l n r k + if hit l n r k then 1 else 0
def hs (l : Nat → Nat) (n r s : Nat) : Nat → Nat
  | 0 => 0
  | k + 1 => hs l n r s k + if l k = s ∧ (s ≠ 0 ∧ cod l n k = r / 2 ^ (15 - s)) then 1 else 0
def sumS (f : Nat → Nat) : Nat → Nat
  | 0 => 0
  | m + 1 => sumS f m + f m
theorem sumS_add (f g : Nat → Nat) : ∀ m, sumS (fun s => f s + g s) m = sumS f m + sumS g m
  | 0 => rfl
  | m + 1 => by simp only [sumS]; rw [sumS_add f g m]; omega
theorem sumS_congr {f g : Nat → Nat} : ∀ m, (∀ s, s < m → f s = g s) → sumS f m = sumS g m
  | 0, _ => rfl
  | m + 1, h => by simp only [sumS]; rw [sumS_congr m (fun s hs => h s (by omega)), h m (by omega)]
theorem sumS_one (x : Nat) (P : Nat → Prop) [DecidablePred P] : ∀ m, sumS (fun s => if x = s ∧ P s then 1 else 0) m = if x < m ∧ P x then 1 else 0
  | 0 => by simp [sumS]
  | m + 1 => by
    simp only [sumS]
    rw [sumS_one x P m]
    by_cases e : x = m
    · subst e
      by_cases hp : P x <;> simp [hp]
    · by_cases hp : P x
      · by_cases hl : x < m
        · have h2 : x < m + 1 := by omega
          simp [hp, hl, h2, e]
        · have h2 : ¬ x < m + 1 := by omega
          simp [hp, hl, h2, e]
      · simp [hp, e]
theorem hits_sum (l : Nat → Nat) (n r : Nat) : ∀ k, (∀ i, i < k → l i ≤ 15) → hits l n r k = sumS (fun s => hs l n r s k) 16
  | 0, _ => by simp [hits, sumS, hs]
  | k + 1, h => by
    have h16 : l k < 16 := by have := h k (by omega); omega
    have e1 : hits l n r (k + 1) = hits l n r k + if hit l n r k then 1 else 0 := rfl
    have e2 : sumS (fun s => hs l n r s (k + 1)) 16 = sumS (fun s => hs l n r s k + if l k = s ∧ (s ≠ 0 ∧ cod l n k = r / 2 ^ (15 - s)) then 1 else 0) 16 := rfl
    have e3 := sumS_one (l k) (fun s => s ≠ 0 ∧ cod l n k = r / 2 ^ (15 - s)) 16
    rw [e1, e2, sumS_add, ← hits_sum l n r k (fun i hi => h i (by omega)), e3]
    by_cases hh : hit l n r k
    · rw [if_pos hh, if_pos (⟨h16, hh⟩ : l k < 16 ∧ (l k ≠ 0 ∧ cod l n k = r / 2 ^ (15 - l k)))]
    · rw [if_neg hh, if_neg (fun q : l k < 16 ∧ (l k ≠ 0 ∧ cod l n k = r / 2 ^ (15 - l k)) => hh q.2)]
theorem hs_of (l : Nat → Nat) (n r s : Nat) (h0 : s ≠ 0) : ∀ k, hs l n r s k = if fs (c0 l n) s ≤ r / 2 ^ (15 - s) ∧ r / 2 ^ (15 - s) < fs (c0 l n) s + cnt l s k then 1 else 0
  | 0 => by
    have e2 : cnt l s 0 = 0 := rfl
    rw [if_neg (by omega)]; rfl
  | k + 1 => by
    have e1 : hs l n r s (k + 1) = hs l n r s k + if l k = s ∧ (s ≠ 0 ∧ cod l n k = r / 2 ^ (15 - s)) then 1 else 0 := rfl
    have e2 : cnt l s (k + 1) = cnt l s k + if l k = s then 1 else 0 := rfl
    rw [e1, hs_of l n r s h0 k]
    by_cases e : l k = s
    · have hc : cod l n k = fs (c0 l n) s + cnt l s k := by unfold cod; rw [e, if_neg h0]
      rw [if_pos e] at e2
      by_cases a : cod l n k = r / 2 ^ (15 - s)
      · rw [if_pos (show l k = s ∧ s ≠ 0 ∧ cod l n k = r / 2 ^ (15 - s) from ⟨e, h0, a⟩), if_neg (by omega), if_pos (by omega)]
      · rw [if_neg (show ¬ (l k = s ∧ s ≠ 0 ∧ cod l n k = r / 2 ^ (15 - s)) from fun q => a q.2.2)]
        by_cases b : fs (c0 l n) s ≤ r / 2 ^ (15 - s) ∧ r / 2 ^ (15 - s) < fs (c0 l n) s + cnt l s k
        · rw [if_pos b, if_pos (by omega)]
        · rw [if_neg b, if_neg (by omega)]
    · rw [if_neg e] at e2
      rw [if_neg (show ¬ (l k = s ∧ s ≠ 0 ∧ cod l n k = r / 2 ^ (15 - s)) from fun q => e q.1), show cnt l s (k + 1) = cnt l s k from e2]; rfl
theorem hs_zero (l : Nat → Nat) (n r : Nat) : ∀ k, hs l n r 0 k = 0
  | 0 => rfl
  | k + 1 => by
    have e1 : hs l n r 0 (k + 1) = hs l n r 0 k + if l k = 0 ∧ (0 ≠ 0 ∧ cod l n k = r / 2 ^ (15 - 0)) then 1 else 0 := rfl
    rw [e1, hs_zero l n r k, if_neg (fun q => q.2.1 rfl)]
theorem hs_aw (l : Nat → Nat) (n r s : Nat) (h : s ≤ 15) : hs l n r s n = if aw (c0 l n) s ≤ r ∧ r < aw (c0 l n) (s + 1) then 1 else 0 := by
  by_cases h0 : s = 0
  · subst h0
    rw [hs_zero]
    have : aw (c0 l n) (0 + 1) = 0 := by simp [aw, c0]
    rw [this, if_neg (by omega)]
  · rw [hs_of l n r s h0]
    have hc : cnt l s n = c0 l n s := by unfold c0; rw [if_neg h0]
    have h1 : fs (c0 l n) s ≤ r / 2 ^ (15 - s) ↔ aw (c0 l n) s ≤ r := by
      rw [Nat.le_div_iff_mul_le (Nat.two_pow_pos _), fs_aw _ s h]
    have h2 : r / 2 ^ (15 - s) < fs (c0 l n) s + c0 l n s ↔ r < aw (c0 l n) (s + 1) := by
      rw [Nat.div_lt_iff_lt_mul (Nat.two_pow_pos _), fs_end _ s h]
    rw [hc]
    simp only [h1, h2]
theorem tele (c : Nat → Nat) (r : Nat) : ∀ m, sumS (fun s => if aw c s ≤ r ∧ r < aw c (s + 1) then 1 else 0) m = if r < aw c m then 1 else 0
  | 0 => by simp [sumS, aw]
  | m + 1 => by
    simp only [sumS]
    rw [tele c r m]
    have := aw_mono c (show m ≤ m + 1 by omega)
    by_cases a : r < aw c m
    · rw [if_pos a, if_neg (by omega), if_pos (by omega)]
    · by_cases b : r < aw c (m + 1)
      · rw [if_neg a, if_pos ⟨by omega, b⟩, if_pos b]
      · rw [if_neg a, if_neg (fun q => b q.2), if_neg b]
theorem hits_all {l : Nat → Nat} {n : Nat} (r : Nat) (hm : May l n) : hits l n r n = if r < weight l n then 1 else 0 := by
  rw [hits_sum l n r n hm.2, sumS_congr 16 (fun s hs' => hs_aw l n r s (by omega)), tele, aw_weight l n hm.2]
theorem kind_two {l : Nat → Nat} {n : Nat} (h : kind l n = 2) : weight l n = 32768 := by
  have hm := kind_may (show kind l n ≠ 5 by omega)
  rw [kind_of hm] at h
  by_cases a : weight l n = 0
  · rw [if_pos a] at h; omega
  · rw [if_neg a] at h
    by_cases b : 32768 < weight l n
    · rw [if_pos b] at h; omega
    · rw [if_neg b] at h
      by_cases c : weight l n = 32768
      · exact c
      · rw [if_neg c] at h; split at h <;> omega
theorem kind_zero {l : Nat → Nat} {n : Nat} (h : kind l n = 0) : weight l n = 0 := by
  have hm := kind_may (show kind l n ≠ 5 by omega)
  rw [kind_of hm] at h
  by_cases a : weight l n = 0
  · exact a
  · rw [if_neg a] at h
    by_cases b : 32768 < weight l n
    · rw [if_pos b] at h; omega
    · rw [if_neg b] at h
      by_cases c : weight l n = 32768
      · rw [if_pos c] at h; omega
      · rw [if_neg c] at h; split at h <;> omega
end Go.Proofs.YtolcaknhjjejeaaDoor.M
