/- Codes turned about, as rows of bits whose first bit is the lowest: which code bits begin with, what cells tables have, how many; in plain numbers. No program. -/
import Derived.Test.YtnkkccieidlacaaMathE
import Derived.Test.YtnkkccieidlacaaMathH
namespace Go.Proofs.Ytnkkccieidlacaa.M
set_option linter.unusedVariables false

/-! bits turned about -/
theorem rv_low {N K m : Nat} (h : m ≤ K) : rv N K % 2 ^ m = rv (N / 2 ^ (K - m)) m := by
  have h1 := rv_split N (K - m) m
  rw [show K - m + m = K by omega] at h1
  rw [h1, Nat.mul_comm, Nat.mul_add_mod, Nat.mod_eq_of_lt (rv_lt _ _)]
theorem rv_high {N a b : Nat} : rv N (a + b) / 2 ^ b = rv N a := by
  rw [rv_split N a b, Nat.mul_comm, Nat.mul_add_div (Nat.two_pow_pos b), Nat.div_eq_of_lt (rv_lt _ _)]; rfl
theorem rv_bit {N K k : Nat} (h : k < K) : rv N K / 2 ^ k % 2 = N / 2 ^ (K - 1 - k) % 2 := by
  have h1 := rv_low (N := N) (K := K) (m := k + 1) h
  have h2 : rv N K % 2 ^ (k + 1) / 2 ^ k = rv N K / 2 ^ k % 2 := by
    rw [Nat.pow_succ, Nat.mod_mul_right_div_self]
  rw [← h2, h1, rv_front, show K - (k + 1) = K - 1 - k by omega, Nat.mul_comm (N / 2 ^ (K - 1 - k) % 2), Nat.mul_add_div (Nat.two_pow_pos k), Nat.div_eq_of_lt (rv_lt _ _)]; rfl
theorem mod_next {a b k : Nat} : a % 2 ^ (k + 1) = b % 2 ^ (k + 1) ↔ (a % 2 ^ k = b % 2 ^ k ∧ a / 2 ^ k % 2 = b / 2 ^ k % 2) := by
  have h1 := mod_pow_succ a k
  have h2 := mod_pow_succ b k
  constructor
  · intro h
    have e1 : a % 2 ^ (k + 1) % 2 ^ k = a % 2 ^ k := Nat.mod_mod_of_dvd _ (Nat.pow_dvd_pow 2 (by omega))
    have e2 : b % 2 ^ (k + 1) % 2 ^ k = b % 2 ^ k := Nat.mod_mod_of_dvd _ (Nat.pow_dvd_pow 2 (by omega))
    have e3 : a % 2 ^ (k + 1) / 2 ^ k = a / 2 ^ k % 2 := by rw [Nat.pow_succ, Nat.mod_mul_right_div_self]
    have e4 : b % 2 ^ (k + 1) / 2 ^ k = b / 2 ^ k % 2 := by rw [Nat.pow_succ, Nat.mod_mul_right_div_self]
    exact ⟨by rw [← e1, ← e2, h], by rw [← e3, ← e4, h]⟩
  · rintro ⟨g1, g2⟩
    rw [h1, h2, g1, g2]
theorem mod_less {a b k m : Nat} (h : a % 2 ^ m = b % 2 ^ m) (hk : k ≤ m) : a % 2 ^ k = b % 2 ^ k := by
  rw [← Nat.mod_mod_of_dvd a (Nat.pow_dvd_pow 2 hk), h, Nat.mod_mod_of_dvd b (Nat.pow_dvd_pow 2 hk)]
theorem mod_mod_le {a k m : Nat} (hk : k ≤ m) : a % 2 ^ m % 2 ^ k = a % 2 ^ k := Nat.mod_mod_of_dvd _ (Nat.pow_dvd_pow 2 hk)
/-- a row of bits by its lower part, and what is above it -/
theorem parts_iff {X c f z : Nat} (hz : f ≤ z) : X % 2 ^ z = c % 2 ^ z ↔ (X % 2 ^ f = c % 2 ^ f ∧ X / 2 ^ f % 2 ^ (z - f) = c / 2 ^ f % 2 ^ (z - f)) := by
  have e : ∀ a : Nat, a % 2 ^ z = a % 2 ^ f + 2 ^ f * (a / 2 ^ f % 2 ^ (z - f)) := fun a => by
    rw [show (2 : Nat) ^ z = 2 ^ f * 2 ^ (z - f) by rw [← Nat.pow_add]; congr 1; omega, Nat.mod_mul]
  constructor
  · intro h
    refine ⟨mod_less h hz, ?_⟩
    have d : ∀ a : Nat, a % 2 ^ z / 2 ^ f = a / 2 ^ f % 2 ^ (z - f) := fun a => by
      rw [show (2 : Nat) ^ z = 2 ^ f * 2 ^ (z - f) by rw [← Nat.pow_add]; congr 1; omega, Nat.mod_mul_right_div_self]
    rw [← d, ← d, h]
  · rintro ⟨h1, h2⟩
    rw [e X, e c, h1, h2]

/-! codes -/
/-- lengths of which codes there can be -/
def Fit (l : Nat → Nat) (n : Nat) : Prop := May l n ∧ weight l n ≤ 32768
/-- a code, its first bit lowest -/
def rc (l : Nat → Nat) (n i : Nat) : Nat := rv (cod l n i) (l i)
/-- do the bits X begin with the code of symbol i -/
def bg (l : Nat → Nat) (n X i : Nat) : Prop := l i ≠ 0 ∧ X % 2 ^ l i = rc l n i
instance (l : Nat → Nat) (n X i : Nat) : Decidable (bg l n X i) := inferInstanceAs (Decidable (l i ≠ 0 ∧ X % 2 ^ l i = rc l n i))
theorem rc_lt (l : Nat → Nat) (n i : Nat) : rc l n i < 2 ^ l i := rv_lt _ _
theorem rc_zero {l : Nat → Nat} {n i : Nat} (h : l i = 0) : rc l n i = 0 := by unfold rc; rw [h]; rfl
theorem rc_small {l : Nat → Nat} {n i : Nat} (h : l i ≤ 15) : rc l n i < 32768 := Nat.lt_of_lt_of_le (rc_lt l n i) (Nat.pow_le_pow_right (by omega) h : 2 ^ l i ≤ 2 ^ 15)
theorem bg_hit {l : Nat → Nat} {n X i : Nat} (hf : Fit l n) (hi : i < n) : bg l n X i ↔ hit l n (rv X 15) i := by
  have h15 := hf.1.2 i hi
  have hc := cod_fit hf.1 hf.2 hi
  have e : rv X 15 / 2 ^ (15 - l i) = rv X (l i) := by
    have := rv_high (N := X) (a := l i) (b := 15 - l i)
    rwa [show l i + (15 - l i) = 15 by omega] at this
  unfold bg hit
  rw [e]
  constructor
  · rintro ⟨h0, h⟩
    refine ⟨h0, ?_⟩
    rw [← rv_mod X (l i) (l i) (Nat.le_refl _), h]
    unfold rc
    rw [rv_rv, Nat.mod_eq_of_lt hc]
  · rintro ⟨h0, h⟩
    refine ⟨h0, ?_⟩
    unfold rc
    rw [h, rv_rv]
theorem hits_mono (l : Nat → Nat) (n r : Nat) {j k : Nat} (h : j ≤ k) : hits l n r j ≤ hits l n r k := by
  induction k with
  | zero => obtain rfl : j = 0 := by omega
            exact Nat.le_refl _
  | succ k ih =>
    by_cases e : j = k + 1
    · subst e; exact Nat.le_refl _
    · have := ih (by omega)
      simp only [hits]; omega
theorem hits_one {l : Nat → Nat} {n r i k : Nat} (hi : i < k) (h : hit l n r i) : hits l n r i + 1 ≤ hits l n r k := by
  have h1 : hits l n r (i + 1) = hits l n r i + 1 := by simp only [hits]; rw [if_pos h]
  have h2 := hits_mono l n r (show i + 1 ≤ k from hi)
  omega
/-- no bits begin with two codes -/
theorem bg_one {l : Nat → Nat} {n X i j : Nat} (hf : Fit l n) (hi : i < n) (hj : j < n) (h1 : bg l n X i) (h2 : bg l n X j) : i = j := by
  rw [bg_hit hf hi] at h1
  rw [bg_hit hf hj] at h2
  have h3 := hits_all (rv X 15) hf.1
  have h4 : hits l n (rv X 15) n ≤ 1 := by rw [h3]; split <;> omega
  rcases Nat.lt_trichotomy i j with g | g | g
  · have a := hits_one g h1
    have b := hits_one hj h2
    omega
  · exact g
  · have a := hits_one g h2
    have b := hits_one hi h1
    omega
theorem hits_none {l : Nat → Nat} {n r : Nat} : ∀ k, (∀ i, i < k → ¬ hit l n r i) → hits l n r k = 0
  | 0, _ => rfl
  | k + 1, h => by simp only [hits]; rw [hits_none k (fun i hi => h i (by omega)), if_neg (h k (by omega))]
/-- bits whose row lies below what all weigh begin with a code -/
theorem bg_some {l : Nat → Nat} {n X : Nat} (hf : Fit l n) (h : rv X 15 < weight l n) : ∃ i, i < n ∧ bg l n X i := by
  apply Classical.byContradiction
  intro g
  have h1 := hits_all (rv X 15) hf.1
  rw [if_pos h, hits_none n (fun i hi q => g ⟨i, hi, (bg_hit hf hi).2 q⟩)] at h1
  omega
theorem weight_ge (l : Nat → Nat) : ∀ k, 16384 * cnt l 1 k ≤ weight l k := fun k => by have := nz_facts l k; omega
theorem weight_more {l : Nat → Nat} : ∀ k i, i < k → l i ≠ 0 → l i ≠ 1 → 16384 * cnt l 1 k + 1 ≤ weight l k
  | 0, i, h, _, _ => by omega
  | k + 1, i, h, h0, h1 => by
    simp only [cnt, weight]
    by_cases e : i = k
    · subst e
      have := wt_pos h0
      have := weight_ge l i
      rw [if_neg h1]; omega
    · have h2 := weight_more k i (by omega) h0 h1
      by_cases g : l k = 1
      · rw [if_pos g, show wt (l k) = 16384 by rw [g]; rfl]; omega
      · rw [if_neg g]; omega
theorem weight_none {l : Nat → Nat} : ∀ k, weight l k = 0 → ∀ i, i < k → l i = 0
  | 0, _, i, h => by omega
  | k + 1, hw, i, h => by
    simp only [weight] at hw
    by_cases e : i = k
    · subst e
      apply Classical.byContradiction
      intro g
      have := wt_pos g
      omega
    · exact weight_none k (by omega) i (by omega)
theorem kind_one {l : Nat → Nat} {n : Nat} (h : kind l n = 1) : c0 l n 1 = 1 ∧ weight l n = 16384 := by
  have hm := kind_may (show kind l n ≠ 5 by omega)
  rw [kind_of hm] at h
  by_cases a : weight l n = 0
  · rw [if_pos a] at h; omega
  · rw [if_neg a] at h
    by_cases b : 32768 < weight l n
    · rw [if_pos b] at h; omega
    · rw [if_neg b] at h
      by_cases c : weight l n = 32768
      · rw [if_pos c] at h; omega
      · rw [if_neg c] at h
        by_cases d : c0 l n 1 = 1 ∧ weight l n = 16384
        · exact d
        · rw [if_neg d] at h; omega
/-- lengths of which there is a table -/
def Tbl (l : Nat → Nat) (n : Nat) : Prop := kind l n = 0 ∨ kind l n = 1 ∨ kind l n = 2
theorem Tbl.fit {l : Nat → Nat} {n : Nat} (h : Tbl l n) : Fit l n := kind_fits (by unfold Tbl at h; omega) (by unfold Tbl at h; omega)
/-- if some code begins with those h bits, the bits with 0s behind begin with one -/
theorem bg_goes {l : Nat → Nat} {n X i h : Nat} (ht : Tbl l n) (hi : i < n) (h0 : l i ≠ 0) (hh : h < l i) (hX : X < 2 ^ h) (he : X % 2 ^ h = rc l n i % 2 ^ h) : ∃ j, j < n ∧ bg l n X j := by
  have hf := ht.fit
  rcases ht with k | k | k
  · exact absurd (weight_none n (kind_zero k) i hi) h0
  · obtain ⟨k1, k2⟩ := kind_one k
    have e1 : cnt l 1 n = 1 := by simpa [c0] using k1
    have hl : l i = 1 := by
      apply Classical.byContradiction
      intro g
      have := weight_more n i hi h0 g
      omega
    obtain rfl : h = 0 := by omega
    obtain rfl : X = 0 := by simpa using hX
    exact bg_some hf (by rw [rv_zero]; omega)
  · exact bg_some hf (by rw [kind_two k]; exact rv_lt X 15)

/-! the symbol that bits begin with -/
/-- the symbol, and its length, of the first k, with which X begins: 0, 0: with none -/
def fnd (l : Nat → Nat) (n X : Nat) : Nat → Nat × Nat
  | 0 => (0, 0)
  | k + 1 => if bg l n X k then (k, l k) else fnd l n X k
theorem fnd_some (l : Nat → Nat) (n X : Nat) : ∀ k, (∃ i, i < k ∧ bg l n X i ∧ fnd l n X k = (i, l i)) ∨ ((∀ i, i < k → ¬ bg l n X i) ∧ fnd l n X k = (0, 0))
  | 0 => .inr ⟨fun i h => by omega, rfl⟩
  | k + 1 => by
    by_cases h : bg l n X k
    · exact .inl ⟨k, by omega, h, by simp only [fnd]; rw [if_pos h]⟩
    · rcases fnd_some l n X k with ⟨i, h1, h2, h3⟩ | ⟨h1, h2⟩
      · exact .inl ⟨i, by omega, h2, by simp only [fnd]; rw [if_neg h]; exact h3⟩
      · refine .inr ⟨fun i hi => ?_, by simp only [fnd]; rw [if_neg h]; exact h2⟩
        by_cases e : i = k
        · subst e; exact h
        · exact h1 i (by omega)
theorem fnd_eq {l : Nat → Nat} {n X i : Nat} (hf : Fit l n) (hi : i < n) (h : bg l n X i) : fnd l n X n = (i, l i) := by
  rcases fnd_some l n X n with ⟨j, h1, h2, h3⟩ | ⟨h1, h2⟩
  · rw [h3, bg_one hf h1 hi h2 h]
  · exact absurd h (h1 i hi)
theorem fnd_no {l : Nat → Nat} {n X : Nat} (h : ∀ i, i < n → ¬ bg l n X i) : fnd l n X n = (0, 0) := by
  rcases fnd_some l n X n with ⟨j, h1, h2, h3⟩ | ⟨h1, h2⟩
  · exact absurd h2 (h j h1)
  · exact h2

/-! tables: the row of bits that stands ahead of the one in which a code is, and how many they are -/
def ahb (l : Nat → Nat) (n f i : Nat) : Nat := if l i ≤ f then 0 else rc l n i % 2 ^ f
def ahs (l : Nat → Nat) (f i : Nat) : Nat := if l i ≤ f then 0 else f
/-- the cell x of the table at b, s, of the first k codes -/
def cv (l : Nat → Nat) (n f b s x : Nat) : Nat → Nat × Nat
  | 0 => (0, 0)
  | k + 1 => if l k ≠ 0 ∧ (ahb l n f k = b ∧ ahs l f k = s) ∧ x % 2 ^ (l k - s) = rc l n k / 2 ^ s then (k, l k) else cv l n f b s x k
/-- how many bits choose a cell of the table at b, s, of the first k codes, if there is one -/
def sz (l : Nat → Nat) (n f b s : Nat) : Nat → Option Nat
  | 0 => if b = 0 ∧ s = 0 then some f else none
  | k + 1 => if ahb l n f k = b ∧ ahs l f k = s then some (max ((sz l n f b s k).getD 0) (l k - s)) else sz l n f b s k

theorem ahs_cases (l : Nat → Nat) (n f i : Nat) : (l i ≤ f ∧ ahb l n f i = 0 ∧ ahs l f i = 0) ∨ (f < l i ∧ ahb l n f i = rc l n i % 2 ^ f ∧ ahs l f i = f) := by
  unfold ahb ahs
  by_cases h : l i ≤ f
  · rw [if_pos h, if_pos h]; exact .inl ⟨h, rfl, rfl⟩
  · rw [if_neg h, if_neg h]; exact .inr ⟨by omega, rfl, rfl⟩
theorem ahb_lt (l : Nat → Nat) (n f i : Nat) : ahb l n f i < 2 ^ f := by
  rcases ahs_cases l n f i with ⟨_, h, _⟩ | ⟨_, h, _⟩
  · rw [h]; exact Nat.two_pow_pos f
  · rw [h]; exact Nat.mod_lt _ (Nat.two_pow_pos f)
theorem cv_some (l : Nat → Nat) (n f b s x : Nat) : ∀ k, (∃ i, i < k ∧ (l i ≠ 0 ∧ (ahb l n f i = b ∧ ahs l f i = s) ∧ x % 2 ^ (l i - s) = rc l n i / 2 ^ s) ∧ cv l n f b s x k = (i, l i)) ∨
    ((∀ i, i < k → ¬ (l i ≠ 0 ∧ (ahb l n f i = b ∧ ahs l f i = s) ∧ x % 2 ^ (l i - s) = rc l n i / 2 ^ s)) ∧ cv l n f b s x k = (0, 0))
  | 0 => .inr ⟨fun i h => by omega, rfl⟩
  | k + 1 => by
    by_cases h : l k ≠ 0 ∧ (ahb l n f k = b ∧ ahs l f k = s) ∧ x % 2 ^ (l k - s) = rc l n k / 2 ^ s
    · exact .inl ⟨k, by omega, h, by simp only [cv]; rw [if_pos h]⟩
    · rcases cv_some l n f b s x k with ⟨i, h1, h2, h3⟩ | ⟨h1, h2⟩
      · exact .inl ⟨i, by omega, h2, by simp only [cv]; rw [if_neg h]; exact h3⟩
      · refine .inr ⟨fun i hi => ?_, by simp only [cv]; rw [if_neg h]; exact h2⟩
        by_cases e : i = k
        · subst e; exact h
        · exact h1 i (by omega)
theorem cv_small {l : Nat → Nat} {n f b s x k : Nat} (hm : May l n) (hk : k ≤ n) : (cv l n f b s x k).1 < 320 ∧ (cv l n f b s x k).2 ≤ 15 := by
  rcases cv_some l n f b s x k with ⟨i, h1, h2, h3⟩ | ⟨h1, h2⟩
  · rw [h3]; exact ⟨by have := hm.1; omega, hm.2 i (by omega)⟩
  · rw [h2]; exact ⟨by omega, by omega⟩
theorem sz_ge {l : Nat → Nat} {n f b s i : Nat} : ∀ k, i < k → ahb l n f i = b → ahs l f i = s → ∃ m, sz l n f b s k = some m ∧ l i - s ≤ m
  | 0, h, _, _ => by omega
  | k + 1, h, hb, hs => by
    by_cases e : i = k
    · subst e
      refine ⟨_, by simp only [sz]; rw [if_pos ⟨hb, hs⟩], Nat.le_max_right _ _⟩
    · obtain ⟨m, h1, h2⟩ := sz_ge k (by omega) hb hs
      by_cases g : ahb l n f k = b ∧ ahs l f k = s
      · refine ⟨_, by simp only [sz]; rw [if_pos g], ?_⟩
        rw [h1]
        exact Nat.le_trans h2 (Nat.le_max_left _ _)
      · exact ⟨m, by simp only [sz]; rw [if_neg g]; exact h1, h2⟩
theorem sz_le {l : Nat → Nat} {n f b s : Nat} (hf : f ≤ 15) : ∀ k, (∀ i, i < k → l i ≤ 15) → ∀ m, sz l n f b s k = some m → m ≤ 15
  | 0, _, m, e => by
    simp only [sz] at e
    split at e
    · injection e with e; omega
    · cases e
  | k + 1, h, m, e => by
    simp only [sz] at e
    have h15 := h k (by omega)
    have ih := sz_le (b := b) (s := s) (n := n) hf k (fun i hi => h i (by omega))
    split at e
    · injection e with e
      cases q : sz l n f b s k with
      | none => rw [q] at e; simp at e; omega
      | some m' => rw [q] at e; have := ih m' q; simp at e; omega
    · exact ih m e
theorem sz_root {l : Nat → Nat} {n f : Nat} (h1 : 1 ≤ f) : ∀ k, sz l n f 0 0 k = some f
  | 0 => by simp [sz]
  | k + 1 => by
    simp only [sz]
    rw [sz_root h1 k]
    split
    · rename_i g
      have hk : l k ≤ f := by
        rcases ahs_cases l n f k with ⟨a, _, _⟩ | ⟨_, _, a⟩
        · exact a
        · have := g.2; omega
      rw [show max ((some f).getD 0) (l k - 0) = f by simp; omega]
    · rfl
theorem sz_sub {l : Nat → Nat} {n f b : Nat} (h1 : 1 ≤ f) : ∀ k m, sz l n f b f k = some m → ∃ i, i < k ∧ f < l i ∧ rc l n i % 2 ^ f = b ∧ m = l i - f
  | 0, m, e => by
    simp only [sz] at e
    rw [if_neg (by omega)] at e
    cases e
  | k + 1, m, e => by
    simp only [sz] at e
    by_cases g : ahb l n f k = b ∧ ahs l f k = f
    · rw [if_pos g] at e
      injection e with e
      have hk : f < l k ∧ rc l n k % 2 ^ f = b := by
        rcases ahs_cases l n f k with ⟨_, _, a⟩ | ⟨a, c, _⟩
        · have := g.2; omega
        · exact ⟨a, by rw [← c]; exact g.1⟩
      cases q : sz l n f b f k with
      | none => rw [q] at e; exact ⟨k, by omega, hk.1, hk.2, by simp at e; omega⟩
      | some m' =>
        rw [q] at e
        obtain ⟨i, i1, i2, i3, i4⟩ := sz_sub h1 k m' q
        simp at e
        by_cases d : m' ≤ l k - f
        · exact ⟨k, by omega, hk.1, hk.2, by omega⟩
        · exact ⟨i, by omega, i2, i3, by omega⟩
    · rw [if_neg g] at e
      obtain ⟨i, i1, i2⟩ := sz_sub h1 k m e
      exact ⟨i, by omega, i2⟩
theorem sz_where {l : Nat → Nat} {n f b s : Nat} : ∀ k m, sz l n f b s k = some m → (b = 0 ∧ s = 0) ∨ (s = f ∧ b < 2 ^ f)
  | 0, m, e => by
    simp only [sz] at e
    by_cases g : b = 0 ∧ s = 0
    · exact .inl g
    · rw [if_neg g] at e; cases e
  | k + 1, m, e => by
    simp only [sz] at e
    by_cases g : ahb l n f k = b ∧ ahs l f k = s
    · rcases ahs_cases l n f k with ⟨_, a2, a3⟩ | ⟨_, a2, a3⟩
      · exact .inl ⟨by omega, by omega⟩
      · exact .inr ⟨by omega, by rw [← g.1]; exact ahb_lt l n f k⟩
    · rw [if_neg g] at e
      exact sz_where k m e

/-- THE TWO LOOKS: the symbol that X begins with, by the cells of the tables. -/
theorem fnd_first {l : Nat → Nat} {n f X : Nat} (hf : Fit l n) (h1 : 1 ≤ f) (h : (cv l n f 0 0 (X % 2 ^ f) n).2 ≠ 0) : fnd l n X n = cv l n f 0 0 (X % 2 ^ f) n := by
  rcases cv_some l n f 0 0 (X % 2 ^ f) n with ⟨i, i1, ⟨i2, ⟨_, i3⟩, i4⟩, i5⟩ | ⟨_, g⟩
  · have hk : l i ≤ f := by
      rcases ahs_cases l n f i with ⟨a, _, _⟩ | ⟨_, _, a⟩
      · exact a
      · omega
    rw [i5]
    refine fnd_eq hf i1 ⟨i2, ?_⟩
    rw [Nat.sub_zero, mod_mod_le hk, Nat.pow_zero, Nat.div_one] at i4
    exact i4
  · rw [g] at h; exact absurd rfl h
theorem bg_first {l : Nat → Nat} {n f X i : Nat} (h1 : 1 ≤ f) (hi : i < n) (hb : bg l n X i) (hk : l i ≤ f) : (cv l n f 0 0 (X % 2 ^ f) n).2 ≠ 0 := by
  rcases cv_some l n f 0 0 (X % 2 ^ f) n with ⟨j, j1, ⟨j2, _⟩, j5⟩ | ⟨g, _⟩
  · rw [j5]; exact j2
  · exfalso
    refine g i hi ⟨hb.1, ?_, ?_⟩
    · rcases ahs_cases l n f i with ⟨_, a, b⟩ | ⟨a, _, _⟩
      · exact ⟨a, b⟩
      · omega
    · rw [Nat.sub_zero, mod_mod_le hk, Nat.pow_zero, Nat.div_one]; exact hb.2
theorem bg_far {l : Nat → Nat} {n f X i : Nat} (hb : bg l n X i) (hk : f < l i) : ahb l n f i = X % 2 ^ f ∧ ahs l f i = f ∧ X / 2 ^ f % 2 ^ (l i - f) = rc l n i / 2 ^ f := by
  have hp := (parts_iff (X := X) (c := rc l n i) (f := f) (z := l i) (by omega)).1 (by rw [hb.2, Nat.mod_eq_of_lt (rc_lt l n i)])
  have e : rc l n i / 2 ^ f % 2 ^ (l i - f) = rc l n i / 2 ^ f := by
    apply Nat.mod_eq_of_lt
    rw [Nat.div_lt_iff_lt_mul (Nat.two_pow_pos f), ← Nat.pow_add, show l i - f + f = l i by omega]
    exact rc_lt l n i
  rcases ahs_cases l n f i with ⟨a, _, _⟩ | ⟨_, a, b⟩
  · omega
  · exact ⟨by rw [a, hp.1], b, by rw [hp.2, e]⟩
theorem fnd_none {l : Nat → Nat} {n f X : Nat} (h1 : 1 ≤ f) (h : (cv l n f 0 0 (X % 2 ^ f) n).2 = 0) (hs : sz l n f (X % 2 ^ f) f n = none) : fnd l n X n = (0, 0) := by
  refine fnd_no fun i hi hb => ?_
  by_cases hk : l i ≤ f
  · exact bg_first h1 hi hb hk h
  · obtain ⟨a, b, _⟩ := bg_far (f := f) hb (by omega)
    obtain ⟨m, e, _⟩ := sz_ge n hi a b
    rw [hs] at e; cases e
theorem fnd_further {l : Nat → Nat} {n f X m : Nat} (hf : Fit l n) (h1 : 1 ≤ f) (h : (cv l n f 0 0 (X % 2 ^ f) n).2 = 0) (hs : sz l n f (X % 2 ^ f) f n = some m) :
    fnd l n X n = cv l n f (X % 2 ^ f) f (X / 2 ^ f % 2 ^ m) n := by
  rcases cv_some l n f (X % 2 ^ f) f (X / 2 ^ f % 2 ^ m) n with ⟨i, i1, ⟨i2, ⟨i3, i6⟩, i4⟩, i5⟩ | ⟨g, g2⟩
  · rw [i5]
    have hk : f < l i ∧ rc l n i % 2 ^ f = X % 2 ^ f := by
      rcases ahs_cases l n f i with ⟨_, _, a⟩ | ⟨a, b, _⟩
      · omega
      · exact ⟨a, by rw [← b, i3]⟩
    obtain ⟨m', e, hm⟩ := sz_ge n i1 i3 i6
    rw [hs] at e
    injection e with e
    subst e
    rw [mod_mod_le hm] at i4
    refine fnd_eq hf i1 ⟨i2, ?_⟩
    have e : rc l n i / 2 ^ f % 2 ^ (l i - f) = rc l n i / 2 ^ f := by
      apply Nat.mod_eq_of_lt
      rw [Nat.div_lt_iff_lt_mul (Nat.two_pow_pos f), ← Nat.pow_add, show l i - f + f = l i by omega]
      exact rc_lt l n i
    have := (parts_iff (X := X) (c := rc l n i) (f := f) (z := l i) (by omega)).2 ⟨hk.2.symm, by rw [i4, e]⟩
    rw [this, Nat.mod_eq_of_lt (rc_lt l n i)]
  · rw [g2]
    refine fnd_no fun i hi hb => ?_
    by_cases hk : l i ≤ f
    · exact bg_first h1 hi hb hk h
    · obtain ⟨a, b, c⟩ := bg_far (f := f) hb (by omega)
      obtain ⟨m', e, hm⟩ := sz_ge n hi a b
      rw [hs] at e
      injection e with e
      subst e
      exact g i hi ⟨hb.1, ⟨a, b⟩, by rw [mod_mod_le hm]; exact c⟩

/-! what Look answers: the symbol, the length, the error's number -/
def lk (l : Nat → Nat) (n X h : Nat) : Nat × Nat × Nat :=
  if (fnd l n (X % 2 ^ min h 64) n).2 = 0 then (0, 0, 7) else if h < (fnd l n (X % 2 ^ min h 64) n).2 then (0, 0, 6) else ((fnd l n (X % 2 ^ min h 64) n).1, (fnd l n (X % 2 ^ min h 64) n).2, 0)
/-- .. as the document's text says it: the first of the first k codes that is whole there, and whether some begins so -/
def fts (l : Nat → Nat) (n X h i : Nat) : Prop := l i ≠ 0 ∧ X % 2 ^ min (l i) h = rc l n i % 2 ^ min (l i) h
instance (l : Nat → Nat) (n X h i : Nat) : Decidable (fts l n X h i) := inferInstanceAs (Decidable (l i ≠ 0 ∧ X % 2 ^ min (l i) h = rc l n i % 2 ^ min (l i) h))
def som (l : Nat → Nat) (n X h : Nat) : Nat → Bool
  | 0 => false
  | k + 1 => som l n X h k || decide (fts l n X h k)
theorem som_iff (l : Nat → Nat) (n X h : Nat) : ∀ k, som l n X h k = true ↔ ∃ i, i < k ∧ fts l n X h i
  | 0 => by simp [som]
  | k + 1 => by
    simp only [som, Bool.or_eq_true, decide_eq_true_eq, som_iff l n X h k]
    constructor
    · rintro (⟨i, a, b⟩ | b)
      · exact ⟨i, by omega, b⟩
      · exact ⟨k, by omega, b⟩
    · rintro ⟨i, a, b⟩
      by_cases e : i = k
      · subst e; exact .inr b
      · exact .inl ⟨i, by omega, b⟩
/-- bits of X from h on are not looked at -/
theorem bg_cut {l : Nat → Nat} {n X h i : Nat} (hk : l i ≤ h) : bg l n (X % 2 ^ h) i ↔ bg l n X i := by
  unfold bg; rw [mod_mod_le hk]
theorem lk_cut {l : Nat → Nat} {n X h : Nat} (hm : May l n) (hf : Fit l n) (h15 : 15 ≤ h) : fnd l n (X % 2 ^ min h 64) n = fnd l n X n := by
  have e : ∀ i, i < n → (bg l n (X % 2 ^ min h 64) i ↔ bg l n X i) := fun i hi => bg_cut (by have := hm.2 i hi; omega)
  rcases fnd_some l n X n with ⟨i, h1, h2, h3⟩ | ⟨h1, h2⟩
  · rw [h3, fnd_eq hf h1 ((e i h1).2 h2)]
  · rw [h2, fnd_no fun i hi q => h1 i hi ((e i hi).1 q)]
/-- a whole code is there: the first one that the document's text comes to -/
theorem lk_yes {l : Nat → Nat} {n X h i : Nat} (hf : Fit l n) (hi : i < n) (hft : fts l n X (min h 15) i) (hle : l i ≤ min h 15) : lk l n X h = (i, l i, 0) := by
  have hb : bg l n (X % 2 ^ min h 64) i := (bg_cut (by omega)).2 ⟨hft.1, by
    have := hft.2
    rw [Nat.min_eq_left hle, Nat.mod_eq_of_lt (rc_lt l n i)] at this
    exact this⟩
  unfold lk
  rw [fnd_eq hf hi hb, if_neg hft.1, if_neg (show ¬ h < l i by omega)]
/-- .. none is -/
theorem lk_rest {l : Nat → Nat} {n X h : Nat} (ht : Tbl l n) (hno : ∀ i, i < n → fts l n X (min h 15) i → ¬ l i ≤ min h 15) : lk l n X h = if som l n X (min h 15) n = true then (0, 0, 6) else (0, 0, 7) := by
  have hf := ht.fit
  have h15 := hf.1.2
  unfold lk
  rcases fnd_some l n (X % 2 ^ min h 64) n with ⟨i, i1, i2, i3⟩ | ⟨i1, i2⟩
  · have hft : fts l n X (min h 15) i := ⟨i2.1, by
      have hq := i2.2
      have e1 : X % 2 ^ min h 64 % 2 ^ min (l i) (min h 15) = X % 2 ^ min (l i) (min h 15) := mod_mod_le (by omega)
      rw [← e1, ← mod_mod_le (a := X % 2 ^ min h 64) (k := min (l i) (min h 15)) (m := l i) (by omega), hq]⟩
    have hlt : h < l i := by have := hno i i1 hft; have := h15 i i1; omega
    rw [i3, if_neg i2.1, if_pos hlt, if_pos ((som_iff l n X _ n).2 ⟨i, i1, hft⟩)]
  · rw [i2, if_pos rfl]
    by_cases g : som l n X (min h 15) n = true
    · exfalso
      obtain ⟨i, g1, g2⟩ := (som_iff l n X _ n).1 g
      have hlt := hno i g1 g2
      have hl := h15 i g1
      have e0 : min h 64 = h := by omega
      have e1 : min (l i) (min h 15) = h := by omega
      have g3 := g2.2
      rw [e1] at g3
      rw [e0] at i1
      obtain ⟨j, j1, j2⟩ := bg_goes ht g1 g2.1 (show h < l i by omega) (Nat.mod_lt X (Nat.two_pow_pos h)) (by rw [Nat.mod_mod]; exact g3)
      exact i1 j j1 j2
    · rw [if_neg g]

/-! how many cells there are -/
def sm (g : Nat → Nat) : Nat → Nat
  | 0 => 0
  | m + 1 => sm g m + g m
def cl (l : Nat → Nat) (n f b s : Nat) : Nat := match sz l n f b s n with | some m => 2 ^ m | none => 0
def cells (l : Nat → Nat) (n f : Nat) : Nat := 2 ^ f + sm (fun b => cl l n f b f) (2 ^ f)
theorem sm_congr {g g' : Nat → Nat} : ∀ m, (∀ i, i < m → g i = g' i) → sm g m = sm g' m
  | 0, _ => rfl
  | m + 1, h => by simp only [sm]; rw [sm_congr m (fun i hi => h i (by omega)), h m (by omega)]
theorem sm_one {g g' : Nat → Nat} {j d : Nat} : ∀ m, j < m → g' j = g j + d → (∀ i, i < m → i ≠ j → g' i = g i) → sm g' m = sm g m + d
  | 0, h, _, _ => by omega
  | m + 1, h, e, ho => by
    simp only [sm]
    by_cases q : j = m
    · subst q
      rw [sm_congr j (fun i hi => ho i (by omega) (by omega)), e]; omega
    · rw [sm_one m (by omega) e (fun i hi => ho i (by omega)), ho m (by omega) (by omega)]; omega
theorem sm_le {g : Nat → Nat} {c : Nat} : ∀ m, (∀ i, i < m → g i ≤ c) → sm g m ≤ m * c
  | 0, _ => by simp [sm]
  | m + 1, h => by
    have h1 := sm_le m (fun i hi => h i (by omega))
    have h2 := h m (by omega)
    simp only [sm]; rw [Nat.add_mul, Nat.one_mul]; omega
theorem cl_le {l : Nat → Nat} {n f b s : Nat} (hf : f ≤ 15) (hm : May l n) : cl l n f b s ≤ 32768 := by
  unfold cl
  split
  · rename_i m h
    exact (Nat.pow_le_pow_right (by omega) (sz_le hf n hm.2 m h) : 2 ^ m ≤ 2 ^ 15)
  · omega
theorem cells_le {l : Nat → Nat} {n f : Nat} (hf : f ≤ 15) (hm : May l n) : cells l n f ≤ 1073774592 := by
  have h1 : 2 ^ f ≤ 2 ^ 15 := Nat.pow_le_pow_right (by omega) hf
  have h2 := sm_le (g := fun b => cl l n f b f) (2 ^ f) (fun i _ => cl_le hf hm)
  have h3 : 2 ^ f * 32768 ≤ 2 ^ 15 * 32768 := Nat.mul_le_mul_right _ h1
  unfold cells
  omega
/-- the greatest length -/
def mst (l : Nat → Nat) : Nat → Nat
  | 0 => 0
  | k + 1 => max (mst l k) (l k)
theorem mst_ge {l : Nat → Nat} : ∀ k i, i < k → l i ≤ mst l k
  | 0, i, h => by omega
  | k + 1, i, h => by
    simp only [mst]
    by_cases e : i = k
    · subst e; exact Nat.le_max_right _ _
    · exact Nat.le_trans (mst_ge k i (by omega)) (Nat.le_max_left _ _)
theorem mst_le {l : Nat → Nat} {c : Nat} : ∀ k, (∀ i, i < k → l i ≤ c) → mst l k ≤ c
  | 0, _ => by simp [mst]
  | k + 1, h => by
    have h1 := mst_le k (fun i hi => h i (by omega))
    have h2 := h k (by omega)
    simp only [mst]; omega
theorem cells_few {l : Nat → Nat} {n f : Nat} (h1 : 1 ≤ f) : cells l n f ≤ 2 ^ mst l n + 2 ^ f := by
  unfold cells
  by_cases hle : mst l n ≤ f
  · have : sm (fun b => cl l n f b f) (2 ^ f) ≤ 2 ^ f * 0 := sm_le _ (fun i _ => by
      unfold cl
      split
      · rename_i m h
        obtain ⟨j, j1, j2, _⟩ := sz_sub h1 n m h
        have := mst_ge (l := l) n j j1
        omega
      · exact Nat.le_refl _)
    rw [Nat.mul_zero, Nat.le_zero_eq] at this
    rw [this, Nat.add_zero]
    exact Nat.le_add_left _ _
  · have h2 : sm (fun b => cl l n f b f) (2 ^ f) ≤ 2 ^ f * 2 ^ (mst l n - f) := sm_le _ (fun i _ => by
      unfold cl
      split
      · rename_i m h
        obtain ⟨j, j1, j2, _, j4⟩ := sz_sub h1 n m h
        have := mst_ge (l := l) n j j1
        exact Nat.pow_le_pow_right (by omega) (by omega)
      · exact Nat.zero_le _)
    rw [← Nat.pow_add, show f + (mst l n - f) = mst l n by omega] at h2
    omega
/-- the longest further row, as the document's text reckons it -/
def lgs (l : Nat → Nat) (n f b : Nat) : Nat → Nat
  | 0 => 0
  | k + 1 => if f < l k ∧ rc l n k % 2 ^ f = b then max (lgs l n f b k) (l k - f) else lgs l n f b k
theorem lgs_eq {l : Nat → Nat} {n f b : Nat} (h1 : 1 ≤ f) : ∀ k, lgs l n f b k = (sz l n f b f k).getD 0
  | 0 => by simp only [lgs, sz]; rw [if_neg (by omega)]; rfl
  | k + 1 => by
    simp only [lgs, sz]
    rw [lgs_eq h1 k]
    by_cases g : f < l k ∧ rc l n k % 2 ^ f = b
    · have g2 : ahb l n f k = b ∧ ahs l f k = f := by
        rcases ahs_cases l n f k with ⟨a, _, _⟩ | ⟨_, a, c⟩
        · omega
        · exact ⟨by rw [a]; exact g.2, c⟩
      rw [if_pos g, if_pos g2]; rfl
    · have g2 : ¬ (ahb l n f k = b ∧ ahs l f k = f) := by
        rintro ⟨q1, q2⟩
        rcases ahs_cases l n f k with ⟨_, _, a⟩ | ⟨a, c, _⟩
        · omega
        · exact g ⟨a, by rw [← c]; exact q1⟩
      rw [if_neg g, if_neg g2]
theorem lgs_cl {l : Nat → Nat} {n f b : Nat} (h1 : 1 ≤ f) : cl l n f b f = if 0 < lgs l n f b n then 2 ^ lgs l n f b n else 0 := by
  rw [lgs_eq h1]
  unfold cl
  cases h : sz l n f b f n with
  | none => simp
  | some m =>
    obtain ⟨i, i1, i2, i3, i4⟩ := sz_sub h1 n m h
    simp only [Option.getD_some]
    rw [if_pos (by omega)]
theorem lgs_le {l : Nat → Nat} {n f b : Nat} (k : Nat) (h : ∀ i, i < k → l i ≤ 15) : lgs l n f b k ≤ 15 := by
  induction k with
  | zero => simp [lgs]
  | succ k ih =>
    have := ih (fun i hi => h i (by omega))
    have := h k (by omega)
    simp only [lgs]; split <;> omega

/-- alike, bit by bit more -/
theorem lk_more {l : Nat → Nat} {n X h h' : Nat} (ht : Tbl l n) (hh : h ≤ h') (he : (lk l n X h).2.2 ≠ 6) : lk l n X h' = lk l n X h := by
  have hf := ht.fit
  unfold lk at he ⊢
  rcases fnd_some l n (X % 2 ^ min h 64) n with ⟨i, i1, i2, i3⟩ | ⟨i1, i2⟩
  · rw [i3] at he ⊢
    rw [if_neg i2.1] at he ⊢
    have hle : ¬ h < l i := by
      intro g
      rw [if_pos g] at he
      exact he rfl
    have h15 := hf.1.2 i i1
    have hb : bg l n (X % 2 ^ min h' 64) i := (bg_cut (by omega)).2 ((bg_cut (by omega)).1 i2)
    rw [fnd_eq hf i1 hb, if_neg i2.1, if_neg (show ¬ h' < l i by omega), if_neg hle]
  · rw [i2, if_pos rfl]
    rw [i2, if_pos rfl] at he
    rw [fnd_no fun i hi hb => ?_, if_pos rfl]
    have h15 := hf.1.2 i hi
    by_cases hle : l i ≤ h
    · exact i1 i hi ((bg_cut (by omega)).2 ((bg_cut (by omega)).1 hb))
    · have e0 : min h 64 = h := by omega
      rw [e0] at i1
      obtain ⟨j, j1, j2⟩ := bg_goes (X := X % 2 ^ h) ht hi hb.1 (show h < l i by omega) (Nat.mod_lt X (Nat.two_pow_pos h)) (by
        rw [Nat.mod_mod, ← hb.2, mod_mod_le (show h ≤ l i by omega), mod_mod_le (show h ≤ min h' 64 by omega)])
      exact i1 j j1 j2
theorem lk_all {l : Nat → Nat} {n X h : Nat} (hf : Fit l n) (h15 : 15 ≤ h) : (lk l n X h).2.2 ≠ 6 := by
  unfold lk
  rcases fnd_some l n (X % 2 ^ min h 64) n with ⟨i, i1, i2, i3⟩ | ⟨i1, i2⟩
  · have := hf.1.2 i i1
    rw [i3, if_neg i2.1, if_neg (show ¬ h < l i by omega)]
    exact fun q => by cases q
  · rw [i2, if_pos rfl]
    exact fun q => by cases q
theorem lk_low {l : Nat → Nat} {n X h : Nat} (hh : h ≤ 64) : lk l n (X % 2 ^ h) h = lk l n X h := by
  unfold lk
  rw [Nat.min_eq_left hh, Nat.mod_mod]
/-- what is answered -/
theorem lk_cases {l : Nat → Nat} {n X h : Nat} (hf : Fit l n) : (∃ i, i < n ∧ l i ≠ 0 ∧ l i ≤ h ∧ X % 2 ^ l i = rc l n i ∧ lk l n X h = (i, l i, 0)) ∨ lk l n X h = (0, 0, 6) ∨ lk l n X h = (0, 0, 7) := by
  unfold lk
  rcases fnd_some l n (X % 2 ^ min h 64) n with ⟨i, i1, i2, i3⟩ | ⟨i1, i2⟩
  · rw [i3, if_neg i2.1]
    by_cases g : h < l i
    · rw [if_pos g]; exact .inr (.inl rfl)
    · have := hf.1.2 i i1
      rw [if_neg g]
      exact .inl ⟨i, i1, i2.1, by omega, ((bg_cut (by omega)).1 i2).2, rfl⟩
  · rw [i2, if_pos rfl]; exact .inr (.inr rfl)
theorem lk_end {l : Nat → Nat} {n X h : Nat} (hf : Fit l n) (h6 : lk l n X h = (0, 0, 6)) : h < 15 := by
  apply Classical.byContradiction
  intro g
  exact lk_all (X := X) hf (show 15 ≤ h by omega) (by rw [h6])
/-- a code that is there is read -/
theorem lk_code {l : Nat → Nat} {n X h i : Nat} (hf : Fit l n) (hi : i < n) (h0 : l i ≠ 0) (hle : l i ≤ h) (he : X % 2 ^ l i = rc l n i) : lk l n X h = (i, l i, 0) := by
  have := hf.1.2 i hi
  unfold lk
  rw [fnd_eq hf hi ((bg_cut (show l i ≤ min h 64 by omega)).2 ⟨h0, he⟩), if_neg h0, if_neg (show ¬ h < l i by omega)]
end Go.Proofs.Ytnkkccieidlacaa.M
