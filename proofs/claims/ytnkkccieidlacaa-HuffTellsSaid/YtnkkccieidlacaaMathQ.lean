/- Codes by their lengths, in plain numbers: lengths are a function l and how many there are, n; counts, weights, first codes, codes, kinds. No program. -/
import Derived.Laws.OwnMore
namespace Go.Proofs.Ytnkkccieidlacaa.M
set_option linter.unusedVariables false

/-- of the first k lengths so many are s -/
def cnt (l : Nat → Nat) (s : Nat) : Nat → Nat
  | 0 => 0
  | k + 1 => cnt l s k + if l k = s then 1 else 0
/-- what a length weighs -/
def wt (x : Nat) : Nat := if x = 0 then 0 else 2 ^ (15 - x)
/-- what the first k lengths weigh -/
def weight (l : Nat → Nat) : Nat → Nat
  | 0 => 0
  | k + 1 => weight l k + wt (l k)
/-- so many symbols have length s, from 1 on -/
def c0 (l : Nat → Nat) (n s : Nat) : Nat := if s = 0 then 0 else cnt l s n
/-- what all lengths below s weigh -/
def aw (c : Nat → Nat) : Nat → Nat
  | 0 => 0
  | s + 1 => aw c s + c s * 2 ^ (15 - s)
/-- the first code of length s -/
def fs (c : Nat → Nat) : Nat → Nat
  | 0 => 0
  | s + 1 => (fs c s + c s) * 2
/-- the code of symbol i -/
def cod (l : Nat → Nat) (n i : Nat) : Nat := if l i = 0 then 0 else fs (c0 l n) (l i) + cnt l (l i) i
/-- may these be lengths -/
def May (l : Nat → Nat) (n : Nat) : Prop := n ≤ 320 ∧ ∀ i, i < n → l i ≤ 15
instance (l : Nat → Nat) (n : Nat) : Decidable (May l n) := inferInstanceAs (Decidable (n ≤ 320 ∧ ∀ i, i < n → l i ≤ 15))
/-- what lengths are -/
def kind (l : Nat → Nat) (n : Nat) : Nat := if May l n then (if weight l n = 0 then 0 else if 32768 < weight l n then 4 else if weight l n = 32768 then 2 else if c0 l n 1 = 1 ∧ weight l n = 16384 then 1 else 3) else 5
/-- the error that lengths have -/
def erc (l : Nat → Nat) (n : Nat) : Nat := if kind l n = 5 then 2 else if kind l n = 4 then 7 else 0
/-- how many codes are answered -/
def outn (l : Nat → Nat) (n : Nat) : Nat := if erc l n = 0 then n else 0

theorem kind_bad {l : Nat → Nat} {n : Nat} (h : ¬ May l n) : kind l n = 5 := by unfold kind; rw [if_neg h]
theorem kind_of {l : Nat → Nat} {n : Nat} (h : May l n) : kind l n = if weight l n = 0 then 0 else if 32768 < weight l n then 4 else if weight l n = 32768 then 2 else if c0 l n 1 = 1 ∧ weight l n = 16384 then 1 else 3 := by unfold kind; rw [if_pos h]
theorem kind_may {l : Nat → Nat} {n : Nat} (h : kind l n ≠ 5) : May l n := by
  apply Classical.byContradiction
  intro g
  exact h (kind_bad g)
theorem kind_le (l : Nat → Nat) (n : Nat) : kind l n ≤ 5 := by
  by_cases h : May l n
  · rw [kind_of h]; repeat' split
    all_goals omega
  · rw [kind_bad h]; omega
theorem kind_fits {l : Nat → Nat} {n : Nat} (h5 : kind l n ≠ 5) (h4 : kind l n ≠ 4) : May l n ∧ weight l n ≤ 32768 := by
  have hm := kind_may h5
  refine ⟨hm, ?_⟩
  rw [kind_of hm] at h4
  by_cases h0 : weight l n = 0
  · omega
  · rw [if_neg h0] at h4
    by_cases h1 : 32768 < weight l n
    · rw [if_pos h1] at h4; omega
    · omega

theorem cnt_le (l : Nat → Nat) (s : Nat) : ∀ k, cnt l s k ≤ k
  | 0 => Nat.le_refl _
  | k + 1 => by
    have := cnt_le l s k
    simp only [cnt]; split <;> omega
theorem cnt_mono (l : Nat → Nat) (s : Nat) {j k : Nat} (h : j ≤ k) : cnt l s j ≤ cnt l s k := by
  induction k with
  | zero => obtain rfl : j = 0 := by omega
            exact Nat.le_refl _
  | succ k ih =>
    by_cases e : j = k + 1
    · subst e; exact Nat.le_refl _
    · have := ih (by omega)
      simp only [cnt]; omega
theorem cnt_lt (l : Nat → Nat) {i k : Nat} (h : i < k) : cnt l (l i) i < cnt l (l i) k := by
  have h1 : cnt l (l i) (i + 1) = cnt l (l i) i + 1 := by simp [cnt]
  have h2 := cnt_mono l (l i) (show i + 1 ≤ k from h)
  omega
theorem cnt_congr {l l' : Nat → Nat} (s : Nat) : ∀ k, (∀ i, i < k → l i = l' i) → cnt l s k = cnt l' s k
  | 0, _ => rfl
  | k + 1, h => by simp only [cnt]; rw [cnt_congr s k (fun i hi => h i (by omega)), h k (by omega)]
theorem weight_congr {l l' : Nat → Nat} : ∀ k, (∀ i, i < k → l i = l' i) → weight l k = weight l' k
  | 0, _ => rfl
  | k + 1, h => by simp only [weight]; rw [weight_congr k (fun i hi => h i (by omega)), h k (by omega)]
theorem wt_le (x : Nat) : wt x ≤ 16384 := by
  unfold wt; split
  · omega
  · exact Nat.pow_le_pow_right (by omega) (show 15 - x ≤ 14 by omega)
theorem wt_pos {x : Nat} (h : x ≠ 0) : 1 ≤ wt x := by unfold wt; rw [if_neg h]; exact Nat.one_le_two_pow
theorem weight_le (l : Nat → Nat) : ∀ k, weight l k ≤ k * 16384
  | 0 => by simp [weight]
  | k + 1 => by have := weight_le l k; have := wt_le (l k); simp only [weight]; omega
theorem c0_le (l : Nat → Nat) (n s : Nat) : c0 l n s ≤ n := by unfold c0; split; omega; exact cnt_le l s n

theorem aw_succ_n (l : Nat → Nat) (n : Nat) : ∀ m, aw (c0 l (n + 1)) m = aw (c0 l n) m + if l n < m then wt (l n) else 0
  | 0 => by simp [aw]
  | m + 1 => by
    simp only [aw]
    rw [aw_succ_n l n m]
    have hc : c0 l (n + 1) m * 2 ^ (15 - m) = c0 l n m * 2 ^ (15 - m) + if l n = m then wt m else 0 := by
      unfold c0 wt
      by_cases h0 : m = 0
      · rw [if_pos h0, if_pos h0, if_pos h0]; split <;> simp
      · rw [if_neg h0, if_neg h0, if_neg h0]
        simp only [cnt]
        split
        · rw [Nat.add_mul, Nat.one_mul]
        · simp
    rw [hc]
    by_cases h1 : l n < m
    · have h2 : ¬ l n = m := by omega
      have h3 : l n < m + 1 := by omega
      rw [if_pos h1, if_neg h2, if_pos h3]; omega
    · by_cases h2 : l n = m
      · have h3 : l n < m + 1 := by omega
        rw [if_neg h1, if_pos h2, if_pos h3, h2]; omega
      · have h3 : ¬ l n < m + 1 := by omega
        rw [if_neg h1, if_neg h2, if_neg h3]; omega
theorem aw_none (l : Nat → Nat) : ∀ m, aw (c0 l 0) m = 0
  | 0 => rfl
  | m + 1 => by simp only [aw]; rw [aw_none l m]; unfold c0; split <;> simp [cnt]
theorem aw_weight (l : Nat → Nat) : ∀ n, (∀ i, i < n → l i ≤ 15) → aw (c0 l n) 16 = weight l n
  | 0, _ => aw_none l 16
  | n + 1, h => by
    have h1 := h n (by omega)
    rw [aw_succ_n, if_pos (show l n < 16 by omega), aw_weight l n (fun i hi => h i (by omega))]; rfl
theorem aw_mono (c : Nat → Nat) {s t : Nat} (h : s ≤ t) : aw c s ≤ aw c t := by
  induction t with
  | zero => obtain rfl : s = 0 := by omega
            exact Nat.le_refl _
  | succ t ih =>
    by_cases e : s = t + 1
    · subst e; exact Nat.le_refl _
    · have := ih (by omega)
      simp only [aw]
      exact Nat.le_trans this (Nat.le_add_right _ _)
theorem fs_aw (c : Nat → Nat) : ∀ s, s ≤ 15 → fs c s * 2 ^ (15 - s) = aw c s
  | 0, _ => by simp [fs, aw]
  | s + 1, h => by
    have h1 := fs_aw c s (by omega)
    have h2 : 2 ^ (15 - s) = 2 * 2 ^ (15 - (s + 1)) := by rw [show 15 - s = (15 - (s + 1)) + 1 by omega, Nat.pow_succ]; omega
    simp only [fs, aw]
    rw [← h1, Nat.mul_assoc, ← h2, Nat.add_mul]
theorem fs_end (c : Nat → Nat) (s : Nat) (h : s ≤ 15) : (fs c s + c s) * 2 ^ (15 - s) = aw c (s + 1) := by
  rw [Nat.add_mul, fs_aw c s h]; rfl
theorem fs_le {c : Nat → Nat} {s : Nat} (h : s ≤ 15) (hw : aw c 16 ≤ 32768) : fs c s + c s ≤ 2 ^ s := by
  have h1 := fs_end c s h
  have h2 := aw_mono c (show s + 1 ≤ 16 by omega)
  have h3 : (fs c s + c s) * 2 ^ (15 - s) ≤ 2 ^ s * 2 ^ (15 - s) := by
    rw [h1, ← Nat.pow_add, show s + (15 - s) = 15 by omega]
    exact Nat.le_trans h2 hw
  exact Nat.le_of_mul_le_mul_right h3 (Nat.two_pow_pos _)
/-- a longer code's first one lies behind all that are shorter -/
theorem fs_far (c : Nat → Nat) (s : Nat) : ∀ t, s < t → (fs c s + c s) * 2 ^ (t - s) ≤ fs c t
  | 0, h => by omega
  | t + 1, h => by
    by_cases e : s = t
    · subst e
      rw [show s + 1 - s = 1 by omega]
      simp only [fs]; omega
    · have := fs_far c s t (by omega)
      rw [show t + 1 - s = (t - s) + 1 by omega, Nat.pow_succ, ← Nat.mul_assoc]
      simp only [fs]
      omega
theorem fs_small {c : Nat → Nat} (hc : ∀ s, s < 16 → c s ≤ 320) : ∀ s, s ≤ 16 → fs c s + 640 ≤ 640 * 2 ^ s
  | 0, _ => by simp [fs]
  | s + 1, h => by
    have h1 := fs_small hc s (by omega)
    have h2 := hc s (by omega)
    rw [Nat.pow_succ]
    simp only [fs]; omega
theorem aw_small {c : Nat → Nat} (hc : ∀ s, s < 16 → c s ≤ 320) : ∀ s, s ≤ 16 → aw c s ≤ s * 10485760
  | 0, _ => by simp [aw]
  | s + 1, h => by
    have h1 := aw_small hc s (by omega)
    have h2 : c s * 2 ^ (15 - s) ≤ 320 * 2 ^ 15 := Nat.mul_le_mul (hc s (by omega)) (Nat.pow_le_pow_right (by omega) (by omega))
    simp only [aw]; omega

/-! the document's way to say what lengths are -/
/-- so many are not 0 -/
def nz (l : Nat → Nat) : Nat → Nat
  | 0 => 0
  | k + 1 => nz l k + if l k = 0 then 0 else 1
/-- the last one that is not 0 -/
def lst (l : Nat → Nat) : Nat → Nat
  | 0 => 0
  | k + 1 => if l k = 0 then lst l k else l k
theorem nz_le (l : Nat → Nat) : ∀ k, nz l k ≤ k
  | 0 => Nat.le_refl _
  | k + 1 => by have := nz_le l k; simp only [nz]; split <;> omega
theorem lst_le {l : Nat → Nat} : ∀ k, (∀ i, i < k → l i ≤ 15) → lst l k ≤ 15
  | 0, _ => by simp [lst]
  | k + 1, h => by
    have h1 := lst_le k (fun i hi => h i (by omega))
    have h2 := h k (by omega)
    simp only [lst]; split <;> omega
theorem nz_facts (l : Nat → Nat) : ∀ k, cnt l 1 k ≤ nz l k ∧ 16384 * cnt l 1 k + (nz l k - cnt l 1 k) ≤ weight l k ∧ (nz l k = 0 → weight l k = 0) ∧ (nz l k = 1 → weight l k = wt (lst l k) ∧ cnt l 1 k = if lst l k = 1 then 1 else 0)
  | 0 => by simp [cnt, nz, weight]
  | k + 1 => by
    obtain ⟨h1, h2, h3, h4⟩ := nz_facts l k
    by_cases h0 : l k = 0
    · have e : wt (l k) = 0 := by unfold wt; rw [if_pos h0]
      have e1 : ¬ l k = 1 := by omega
      have e2 : lst l (k + 1) = lst l k := by simp only [lst]; rw [if_pos h0]
      rw [e2]
      simp only [cnt, nz, weight]
      rw [if_pos h0, if_neg e1, e]
      exact ⟨h1, h2, h3, h4⟩
    · have hp := wt_pos h0
      have e2 : lst l (k + 1) = l k := by simp only [lst]; rw [if_neg h0]
      rw [e2]
      by_cases e1 : l k = 1
      · have e : wt (l k) = 16384 := by rw [e1]; rfl
        simp only [cnt, nz, weight]
        rw [if_neg h0, if_pos e1, e]
        refine ⟨by omega, by omega, by omega, fun g => ?_⟩
        have g0 : nz l k = 0 := by omega
        have g1 := h3 g0
        exact ⟨by omega, by omega⟩
      · simp only [cnt, nz, weight]
        rw [if_neg h0, if_neg e1]
        refine ⟨by omega, by omega, by omega, fun g => ?_⟩
        have g0 : nz l k = 0 := by omega
        have g1 := h3 g0
        exact ⟨by omega, by omega⟩
/-- what lengths are, as the document's text says it -/
theorem kind_ref {l : Nat → Nat} {n : Nat} (h : May l n) : kind l n = if nz l n = 0 then 0 else if 32768 < weight l n then 4 else if weight l n = 32768 then 2 else if nz l n = 1 ∧ lst l n = 1 then 1 else 3 := by
  obtain ⟨h1, h2, h3, h4⟩ := nz_facts l n
  rw [kind_of h]
  have e1 : c0 l n 1 = cnt l 1 n := rfl
  have i1 : weight l n = 0 ↔ nz l n = 0 := ⟨fun g => by omega, h3⟩
  have i2 : (c0 l n 1 = 1 ∧ weight l n = 16384) ↔ (nz l n = 1 ∧ lst l n = 1) := by
    rw [e1]
    constructor
    · rintro ⟨a, b⟩
      have c : nz l n = 1 := by omega
      refine ⟨c, ?_⟩
      have d := (h4 c).2
      rw [a] at d
      split at d
      · assumption
      · omega
    · rintro ⟨a, b⟩
      obtain ⟨c, d⟩ := h4 a
      rw [b] at c d
      exact ⟨by simpa using d, c⟩
  simp only [i1, i2]

/-! codes -/
theorem cod_lt {l : Nat → Nat} {n i : Nat} (hm : May l n) (hw : weight l n ≤ 32768) (hi : i < n) : cod l n i < 2 ^ l i ∨ l i = 0 := by
  by_cases h0 : l i = 0
  · exact .inr h0
  · refine .inl ?_
    have h1 := hm.2 i hi
    have h2 := fs_le (c := c0 l n) h1 (by rw [aw_weight l n hm.2]; exact hw)
    have h3 := cnt_lt l hi
    have h4 : c0 l n (l i) = cnt l (l i) n := by unfold c0; rw [if_neg h0]
    unfold cod
    rw [if_neg h0]; omega
theorem cod_fit {l : Nat → Nat} {n i : Nat} (hm : May l n) (hw : weight l n ≤ 32768) (hi : i < n) : cod l n i < 2 ^ l i := by
  rcases cod_lt hm hw hi with h | h
  · exact h
  · unfold cod; rw [if_pos h, h]; decide
theorem cod_small {l : Nat → Nat} {n i : Nat} (hm : May l n) (hw : weight l n ≤ 32768) (hi : i < n) : cod l n i < 32768 :=
  Nat.lt_of_lt_of_le (cod_fit hm hw hi) (Nat.pow_le_pow_right (by omega) (hm.2 i hi) : 2 ^ l i ≤ 2 ^ 15)
theorem cod_rise {l : Nat → Nat} {n i j : Nat} (h0 : l i ≠ 0) (he : l i = l j) (hij : i < j) : cod l n i < cod l n j := by
  have h := cnt_lt l hij
  unfold cod
  rw [if_neg h0, if_neg (by omega), ← he]
  omega
theorem cod_apart {l : Nat → Nat} {n i j : Nat} (h0 : l i ≠ 0) (he : l i = l j) (hij : i ≠ j) : cod l n i ≠ cod l n j := by
  rcases Nat.lt_or_gt_of_ne hij with g | g
  · have := cod_rise (n := n) h0 he g; omega
  · have := cod_rise (n := n) (by omega) he.symm g; omega
/-- a shorter code lies below all longer ones -/
theorem cod_far {l : Nat → Nat} {n i j : Nat} (hi : i < n) (h0 : l i ≠ 0) (h : l i < l j) : cod l n i < cod l n j / 2 ^ (l j - l i) := by
  have h1 := fs_far (c0 l n) (l i) (l j) h
  have h2 := cnt_lt l hi
  have h3 : c0 l n (l i) = cnt l (l i) n := by unfold c0; rw [if_neg h0]
  have h4 : cod l n i + 1 ≤ fs (c0 l n) (l i) + c0 l n (l i) := by unfold cod; rw [if_neg h0]; omega
  have h5 : fs (c0 l n) (l j) ≤ cod l n j := by unfold cod; rw [if_neg (by omega)]; omega
  rw [Nat.lt_iff_add_one_le, Nat.le_div_iff_mul_le (Nat.two_pow_pos _)]
  exact Nat.le_trans (Nat.mul_le_mul_right _ h4) (Nat.le_trans h1 h5)

/-- what the document's text goes by: behind k symbols of length m the next code -/
theorem ref_next {l : Nat → Nat} {n m k : Nat} (hm : May l n) (hw : weight l n ≤ 32768) (h1 : 1 ≤ m) (h15 : m ≤ 15) (hk : k ≤ n) : fs (c0 l n) m + cnt l m k ≤ 2 ^ m := by
  have h2 := fs_le (c := c0 l n) h15 (by rw [aw_weight l n hm.2]; exact hw)
  have h3 := cnt_mono l m hk
  have h4 : c0 l n m = cnt l m n := by unfold c0; rw [if_neg (by omega)]
  omega
end Go.Proofs.Ytnkkccieidlacaa.M
