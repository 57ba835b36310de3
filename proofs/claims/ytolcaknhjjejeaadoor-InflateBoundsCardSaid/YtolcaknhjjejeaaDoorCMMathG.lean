/- Texts of one place, one behind the other: MathG, IfM, IfN, IfL. -/
import Derived.Test.YtolcaknhjjejeaaDoorCMMath
import Derived.Test.YtolcaknhjjejeaaDoorCMMathT
import Derived.Test.YtolcaknhjjejeaaDoorCMMaR
namespace Go.Proofs.YtolcaknhjjejeaaDoor.M
set_option linter.unusedVariables false
theorem rv_high {N a b : Nat} : rv N (a + b) / 2 ^ b = rv N a := by
  rw [rv_split N a b, Nat.mul_comm, Nat.mul_add_div (Nat.two_pow_pos b), Nat.div_eq_of_lt (rv_lt _ _)]; rfl
theorem mod_less {a b k m : Nat} (h : a % 2 ^ m = b % 2 ^ m) (hk : k ≤ m) : a % 2 ^ k = b % 2 ^ k := by
  rw [← Nat.mod_mod_of_dvd a (Nat.pow_dvd_pow 2 hk), h, Nat.mod_mod_of_dvd b (Nat.pow_dvd_pow 2 hk)]
theorem mod_mod_le {a k m : Nat} (hk : k ≤ m) : a % 2 ^ m % 2 ^ k = a % 2 ^ k := Nat.mod_mod_of_dvd _ (Nat.pow_dvd_pow 2 hk)
theorem parts_iff {X c f z : Nat} (hz : f ≤ z) : X % 2 ^ z = c % 2 ^ z ↔ (X % 2 ^ f = c % 2 ^ f ∧ X / 2 ^ f % 2 ^ (z - f) = c / 2 ^ f % 2 ^ (z - f)) := by
  have e : ∀ a : Nat, a % 2 ^ z = a % 2 ^ f + 2 ^ f * (a / 2 ^ f % 2 ^ (z - f)) := fun a => by
    rw [show (2 : Nat) ^ z = 2 ^ f * 2 ^ (z - f) by rw [← Nat.pow_add]; congr 1; omega, Nat.mod_mul]
  constructor
  · intro h
    refine ⟨mod_less h hz, ?_⟩
    have d : ∀ a : Nat, a % 2 ^ z / 2 ^ f = a / 2 ^ f % 2 ^ (z - f) := fun a => by
      rw [show (2 : Nat) ^ z = 2 ^ f * 2 ^ (z - f) by rw [← Nat.pow_add]; congr 1; omega, Nat.mod_mul_right_div_self]
    rw [← d, ← d, h]
  · rintro ⟨h1, h2⟩
    rw [e X, e c, h1, h2]
def Fit (l : Nat → Nat) (n : Nat) : Prop := May l n ∧ weight l n ≤ 32768
def rc (l : Nat → Nat) (n i : Nat) : Nat := rv (cod l n i) (l i)
def bg (l : Nat → Nat) (n X i : Nat) : Prop := l i ≠ 0 ∧ X % 2 ^ l i = rc l n i
instance (l : Nat → Nat) (n X i : Nat) : Decidable (bg l n X i) := inferInstanceAs (Decidable (l i ≠ 0 ∧ X % 2 ^ l i = rc l n i))
theorem rc_lt (l : Nat → Nat) (n i : Nat) : rc l n i < 2 ^ l i := rv_lt _ _
theorem rc_small {l : Nat → Nat} {n i : Nat} (h : l i ≤ 15) : rc l n i < 32768 := Nat.lt_of_lt_of_le (rc_lt l n i) (Nat.pow_le_pow_right (by omega) h : 2 ^ l i ≤ 2 ^ 15)
theorem bg_hit {l : Nat → Nat} {n X i : Nat} (hf : Fit l n) (hi : i < n) : bg l n X i ↔ hit l n (rv X 15) i := by
  have h15 := hf.1.2 i hi
  have hc := cod_fit hf.1 hf.2 hi
  have e : rv X 15 / 2 ^ (15 - l i) = rv X (l i) := by
    have := rv_high (N := X) (a := l i) (b := 15 - l i)
    rwa [show l i + (15 - l i) = 15 by omega] at this
  unfold bg hit
  rw [e]
  constructor
  · rintro ⟨h0, h⟩
    refine ⟨h0, ?_⟩
    rw [← rv_mod X (l i) (l i) (Nat.le_refl _), h]
    unfold rc
    rw [rv_rv, Nat.mod_eq_of_lt hc]
  · rintro ⟨h0, h⟩
    refine ⟨h0, ?_⟩
    unfold rc
    rw [h, rv_rv]
theorem hits_mono (l : Nat → Nat) (n r : Nat) {j k : Nat} (h : j ≤ k) : hits l n r j ≤ hits l n r k := by
  induction k with
  | zero => obtain rfl : j = 0 := by omega
            exact Nat.le_refl _
  | succ k ih =>
    by_cases e : j = k + 1
    · subst e; exact Nat.le_refl _
    · have := ih (by omega)
      simp only [hits]; omega
theorem hits_one {l : Nat → Nat} {n r i k : Nat} (hi : i < k) (h : hit l n r i) : hits l n r i + 1 ≤ hits l n r k := by
  have h1 : hits l n r (i + 1) = hits l n r i + 1 := by simp only [hits]; rw [if_pos h]
  have h2 := hits_mono l n r (show i + 1 ≤ k from hi)
  omega
theorem bg_one {l : Nat → Nat} {n X i j : Nat} (hf : Fit l n) (hi : i < n) (hj : j < n) (h1 : bg l n X i) (h2 : bg l n X j) : i = j := by
  rw [bg_hit hf hi] at h1
  rw [bg_hit hf hj] at h2
  have h3 := hits_all (rv X 15) hf.1
  have h4 : hits l n (rv X 15) n ≤ 1 := by rw [h3]; split <;> omega
  rcases Nat.lt_trichotomy i j with g | g | g
  · have a := hits_one g h1
    have b := hits_one hj h2
    omega
  · exact g
  · have a := hits_one g h2
    have b := hits_one hi h1
    omega
theorem hits_none {l : Nat → Nat} {n r : Nat} : ∀ k, (∀ i, i < k → ¬ hit l n r i) → hits l n r k = 0
  | 0, _ => rfl
  | k + 1, h => by simp only [hits]; rw [hits_none k (fun i hi => h i (by omega)), if_neg (h k (by omega))]
theorem bg_some {l : Nat → Nat} {n X : Nat} (hf : Fit l n) (h : rv X 15 < weight l n) : ∃ i, i < n ∧ bg l n X i := by
  apply Classical.byContradiction
  intro g
  have h1 := hits_all (rv X 15) hf.1
  rw [if_pos h, hits_none n (fun i hi q => g ⟨i, hi, (bg_hit hf hi).2 q⟩)] at h1
  omega
theorem weight_ge (l : Nat → Nat) : ∀ k, 16384 * cnt l 1 k ≤ weight l k := fun k => by have := nz_facts l k; omega
theorem weight_more {l : Nat → Nat} : ∀ k i, i < k → l i ≠ 0 → l i ≠ 1 → 16384 * cnt l 1 k + 1 ≤ weight l k
  | 0, i, h, _, _ => by omega
  | k + 1, i, h, h0, h1 => by
    simp only [cnt, weight]
    by_cases e : i = k
    · subst e
      have := wt_pos h0
      have := weight_ge l i
      rw [if_neg h1]; omega
    · have h2 := weight_more k i (by omega) h0 h1
      by_cases g : l k = 1
      · rw [if_pos g, show wt (l k) = 16384 by rw [g]; rfl]; omega
      · rw [if_neg g]; omega
theorem weight_none {l : Nat → Nat} : ∀ k, weight l k = 0 → ∀ i, i < k → l i = 0
  | 0, _, i, h => by omega
  | k + 1, hw, i, h => by
    simp only [weight] at hw
    by_cases e : i = k
    · subst e
      apply Classical.byContradiction
      intro g
      have := wt_pos g
      omega
    · exact weight_none k (by omega) i (by omega)
theorem kind_one {l : Nat → Nat} {n : Nat} (h : kind l n = 1) : c0 l n 1 = 1 ∧ weight l n = 16384 := by
  have hm := kind_may (show kind l n ≠ 5 by omega)
  rw [kind_of hm] at h
  by_cases a : weight l n = 0
  · rw [if_pos a] at h; omega
  · rw [if_neg a] at h
    by_cases b : 32768 < weight l n
    · rw [if_pos b] at h; omega
    · rw [if_neg b] at h
      by_cases c : weight l n = 32768
      · rw [if_pos c] at h; omega
      · rw [if_neg c] at h
        by_cases d : c0 l n 1 = 1 ∧ weight l n = 16384
        · exact d
        · rw [if_neg d] at h; omega
def Tbl (l : Nat → Nat) (n : Nat) : Prop := kind l n = 0 ∨ kind l n = 1 ∨ kind l n = 2
theorem Tbl.fit {l : Nat → Nat} {n : Nat} (h : Tbl l n) : Fit l n := kind_fits (by unfold Tbl at h; omega) (by unfold Tbl at h; omega)
theorem bg_goes {l : Nat → Nat} {n X i h : Nat} (ht : Tbl l n) (hi : i < n) (h0 : l i ≠ 0) (hh : h < l i) (hX : X < 2 ^ h) (he : X % 2 ^ h = rc l n i % 2 ^ h) : ∃ j, j < n ∧ bg l n X j := by
  have hf := ht.fit
  rcases ht with k | k | k
  · exact absurd (weight_none n (kind_zero k) i hi) h0
  · obtain ⟨k1, k2⟩ := kind_one k
    have e1 : cnt l 1 n = 1 := by simpa [c0] using k1
    have hl : l i = 1 := by
      apply Classical.byContradiction
      intro g
      have := weight_more n i hi h0 g
      omega
    obtain rfl : h = 0 := by omega
    obtain rfl : X = 0 := by simpa using hX
    exact bg_some hf (by rw [rv_zero]; omega)
  · exact bg_some hf (by rw [kind_two k]; exact rv_lt X 15)
def fnd (l : Nat → Nat) (n X : Nat) : Nat → Nat × Nat
  | 0 => (0, 0)
  | k + 1 => if bg l n X k then (k, l k) else fnd l n X k
theorem fnd_some (l : Nat → Nat) (n X : Nat) : ∀ k, (∃ i, i < k ∧ bg l n X i ∧ fnd l n X k = (i, l i)) ∨ ((∀ i, i < k → ¬ bg l n X i) ∧ fnd l n X k = (0, 0))
  | 0 => .inr ⟨fun i h => by omega, rfl⟩
  | k + 1 => by
    by_cases h : bg l n X k
    · exact .inl ⟨k, by omega, h, by simp only [fnd]; rw [if_pos h]⟩
    · rcases fnd_some l n X k with ⟨i, h1, h2, h3⟩ | ⟨h1, h2⟩
      · exact .inl ⟨i, by omega, h2, by simp only [fnd]; rw [if_neg h]; exact h3⟩
      · refine .inr ⟨fun i hi => ?_, by simp only [fnd]; rw [if_neg h]; exact h2⟩
        by_cases e : i = k
        · subst e; exact h
        · exact h1 i (by omega)
theorem fnd_eq {l : Nat → Nat} {n X i : Nat} (hf : Fit l n) (hi : i < n) (h : bg l n X i) : fnd l n X n = (i, l i) := by
  rcases fnd_some l n X n with ⟨j, h1, h2, h3⟩ | ⟨h1, h2⟩
  · rw [h3, bg_one hf h1 hi h2 h]
  · exact absurd h (h1 i hi)
theorem fnd_no {l : Nat → Nat} {n X : Nat} (h : ∀ i, i < n → ¬ bg l n X i) : fnd l n X n = (0, 0) := by
  rcases fnd_some l n X n with ⟨j, h1, h2, h3⟩ | ⟨h1, h2⟩
  · exact absurd h2 (h j h1)
  · exact h2
def ahb (l : Nat → Nat) (n f i : Nat) : Nat := if l i ≤ f then 0 else rc l n i % 2 ^ f
def ahs (l : Nat → Nat) (f i : Nat) : Nat := if l i ≤ f then 0 else f
def cv (l : Nat → Nat) (n f b s x : Nat) : Nat → Nat × Nat
  | 0 => (0, 0)
  | k + 1 => if l k ≠ 0 ∧ (ahb l n f k = b ∧ ahs l f k = s) ∧ x % 2 ^ (l k - s) = rc l n k / 2 ^ s then (k, l k) else cv l n f b s x k
def sz (l : Nat → Nat) (n f b s : Nat) : Nat → Option Nat
  | 0 => if b = 0 ∧ s = 0 then some f else none
  | k + 1 => if ahb l n f k = b ∧ ahs l f k = s then some (max ((sz l n f b s k).getD 0) (l k - s)) else sz l n f b s k
theorem ahs_cases (l : Nat → Nat) (n f i : Nat) : (l i ≤ f ∧ ahb l n f i = 0 ∧ ahs l f i = 0) ∨ (f < l i ∧ ahb l n f i = rc l n i % 2 ^ f ∧ ahs l f i = f) := by
  unfold ahb ahs
  by_cases h : l i ≤ f
  · rw [if_pos h, if_pos h]; exact .inl ⟨h, rfl, rfl⟩
  · rw [if_neg h, if_neg h]; exact .inr ⟨by omega, rfl, rfl⟩
theorem ahb_lt (l : Nat → Nat) (n f i : Nat) : ahb l n f i < 2 ^ f := by
  rcases ahs_cases l n f i with ⟨_, h, _⟩ | ⟨_, h, _⟩
  · rw [h]; exact Nat.two_pow_pos f
  · rw [h]; exact Nat.mod_lt _ (Nat.two_pow_pos f)
theorem cv_some (l : Nat → Nat) (n f b s x : Nat) : ∀ k, (∃ i, i < k ∧ (l i ≠ 0 ∧ (ahb l n f i = b ∧ ahs l f i = s) ∧ x % 2 ^ (l i - s) = rc l n i / 2 ^ s) ∧ cv l n f b s x k = (i, l i)) ∨
    ((∀ i, i < k → ¬ (l i ≠ 0 ∧ (ahb l n f i = b ∧ ahs l f i = s) ∧ x % 2 ^ (l i - s) = rc l n i / 2 ^ s)) ∧ cv l n f b s x k = (0, 0))
  | 0 => .inr ⟨fun i h => by omega, rfl⟩
  | k + 1 => by
    by_cases h : l k ≠ 0 ∧ (ahb l n f k = b ∧ ahs l f k = s) ∧ x % 2 ^ (l k - s) = rc l n k / 2 ^ s
    · exact .inl ⟨k, by omega, h, by simp only [cv]; rw [if_pos h]⟩
    · rcases cv_some l n f b s x k with ⟨i, h1, h2, h3⟩ | ⟨h1, h2⟩
      · exact .inl ⟨i, by omega, h2, by simp only [cv]; rw [if_neg h]; exact h3⟩
      · refine .inr ⟨fun i hi => ?_, by simp only [cv]; rw [if_neg h]; exact h2⟩
        by_cases e : i = k
        · subst e; exact h
        · exact h1 i (by omega)
theorem cv_small {l : Nat → Nat} {n f b s x k : Nat} (hm : May l n) (hk : k ≤ n) : (cv l n f b s x k).1 < 320 ∧ (cv l n f b s x k).2 ≤ 15 := by
  rcases cv_some l n f b s x k with ⟨i, h1, h2, h3⟩ | ⟨h1, h2⟩
  · rw [h3]; exact ⟨by have := hm.1; omega, hm.2 i (by omega)⟩
  · rw [h2]; exact ⟨by omega, by omega⟩
theorem sz_ge {l : Nat → Nat} {n f b s i : Nat} : ∀ k, i < k → ahb l n f i = b → ahs l f i = s → ∃ m, sz l n f b s k = some m ∧ l i - s ≤ m
  | 0, h, _, _ => by omega
  | k + 1, h, hb, hs => by
    by_cases e : i = k
    · subst e
      refine ⟨_, by simp only [sz]; rw [if_pos ⟨hb, hs⟩], Nat.le_max_right _ _⟩
    · obtain ⟨m, h1, h2⟩ := sz_ge k (by omega) hb hs
      by_cases g : ahb l n f k = b ∧ ahs l f k = s
      · refine ⟨_, by simp only [sz]; rw [if_pos g], ?_⟩
        rw [h1]
        exact Nat.le_trans h2 (Nat.le_max_left _ _)
      · exact ⟨m, by simp only [sz]; rw [if_neg g]; exact h1, h2⟩
theorem sz_le {l : Nat → Nat} {n f b s : Nat} (hf : f ≤ 15) : ∀ k, (∀ i, i < k → l i ≤ 15) → ∀ m, sz l n f b s k = some m → m ≤ 15
  | 0, _, m, e => by
    simp only [sz] at e
    split at e
    · injection e with e; omega
    · cases e
  | k + 1, h, m, e => by
    simp only [sz] at e
    have h15 := h k (by omega)
    have ih := sz_le (b := b) (s := s) (n := n) hf k (fun i hi => h i (by omega))
    split at e
    · injection e with e
      cases q : sz l n f b s k with
      | none => rw [q] at e; simp at e; omega
      | some m' => rw [q] at e; have := ih m' q; simp at e; omega
    · exact ih m e
theorem sz_root {l : Nat → Nat} {n f : Nat} (h1 : 1 ≤ f) : ∀ k, sz l n f 0 0 k = some f
  | 0 => by simp [sz]
  | k + 1 => by
    simp only [sz]
    rw [sz_root h1 k]
    split
    · rename_i g
      have hk : l k ≤ f := by
        rcases ahs_cases l n f k with ⟨a, _, _⟩ | ⟨_, _, a⟩
        · exact a
        · have := g.2; omega
      rw [show max ((some f).getD 0) (l k - 0) = f by simp; omega]
    · rfl
theorem sz_where {l : Nat → Nat} {n f b s : Nat} : ∀ k m, sz l n f b s k = some m → (b = 0 ∧ s = 0) ∨ (s = f ∧ b < 2 ^ f)
  | 0, m, e => by
    simp only [sz] at e
    by_cases g : b = 0 ∧ s = 0
    · exact .inl g
    · rw [if_neg g] at e; cases e
  | k + 1, m, e => by
    simp only [sz] at e
    by_cases g : ahb l n f k = b ∧ ahs l f k = s
    · rcases ahs_cases l n f k with ⟨_, a2, a3⟩ | ⟨_, a2, a3⟩
      · exact .inl ⟨by omega, by omega⟩
      · exact .inr ⟨by omega, by rw [← g.1]; exact ahb_lt l n f k⟩
    · rw [if_neg g] at e
      exact sz_where k m e
theorem fnd_first {l : Nat → Nat} {n f X : Nat} (hf : Fit l n) (h1 : 1 ≤ f) (h : (cv l n f 0 0 (X % 2 ^ f) n).2 ≠ 0) : fnd l n X n = cv l n f 0 0 (X % 2 ^ f) n := by
  rcases cv_some l n f 0 0 (X % 2 ^ f) n with ⟨i, i1, ⟨i2, ⟨_, i3⟩, i4⟩, i5⟩ | ⟨_, g⟩
  · have hk : l i ≤ f := by
      rcases ahs_cases l n f i with ⟨a, _, _⟩ | ⟨_, _, a⟩
      · exact a
      · omega
    rw [i5]
    refine fnd_eq hf i1 ⟨i2, ?_⟩
    rw [Nat.sub_zero, mod_mod_le hk, Nat.pow_zero, Nat.div_one] at i4
    exact i4
  · rw [g] at h; exact absurd rfl h
theorem bg_first {l : Nat → Nat} {n f X i : Nat} (h1 : 1 ≤ f) (hi : i < n) (hb : bg l n X i) (hk : l i ≤ f) : (cv l n f 0 0 (X % 2 ^ f) n).2 ≠ 0 := by
  rcases cv_some l n f 0 0 (X % 2 ^ f) n with ⟨j, j1, ⟨j2, _⟩, j5⟩ | ⟨g, _⟩
  · rw [j5]; exact j2
  · exfalso
    refine g i hi ⟨hb.1, ?_, ?_⟩
    · rcases ahs_cases l n f i with ⟨_, a, b⟩ | ⟨a, _, _⟩
      · exact ⟨a, b⟩
      · omega
    · rw [Nat.sub_zero, mod_mod_le hk, Nat.pow_zero, Nat.div_one]; exact hb.2
theorem bg_far {l : Nat → Nat} {n f X i : Nat} (hb : bg l n X i) (hk : f < l i) : ahb l n f i = X % 2 ^ f ∧ ahs l f i = f ∧ X / 2 ^ f % 2 ^ (l i - f) = rc l n i / 2 ^ f := by
  have hp := (parts_iff (X := X) (c := rc l n i) (f := f) (z := l i) (by omega)).1 (by rw [hb.2, Nat.mod_eq_of_lt (rc_lt l n i)])
  have e : rc l n i / 2 ^ f % 2 ^ (l i - f) = rc l n i / 2 ^ f := by
    apply Nat.mod_eq_of_lt
    rw [Nat.div_lt_iff_lt_mul (Nat.two_pow_pos f), ← Nat.pow_add, show l i - f + f = l i by omega]
    exact rc_lt l n i
  rcases ahs_cases l n f i with ⟨a, _, _⟩ | ⟨_, a, b⟩
  · omega
  · exact ⟨by rw [a, hp.1], b, by rw [hp.2, e]⟩
theorem fnd_none {l : Nat → Nat} {n f X : Nat} (h1 : 1 ≤ f) (h : (cv l n f 0 0 (X % 2 ^ f) n).2 = 0) (hs : sz l n f (X % 2 ^ f) f n = none) : fnd l n X n = (0, 0) := by
  refine fnd_no fun i hi hb => ?_
  by_cases hk : l i ≤ f
  · exact bg_first h1 hi hb hk h
  · obtain ⟨a, b, _⟩ := bg_far (f := f) hb (by omega)
    obtain ⟨m, e, _⟩ := sz_ge n hi a b
    rw [hs] at e; cases e
theorem fnd_further {l : Nat → Nat} {n f X m : Nat} (hf : Fit l n) (h1 : 1 ≤ f) (h : (cv l n f 0 0 (X % 2 ^ f) n).2 = 0) (hs : sz l n f (X % 2 ^ f) f n = some m) :
    fnd l n X n = cv l n f (X % 2 ^ f) f (X / 2 ^ f % 2 ^ m) n := by
  rcases cv_some l n f (X % 2 ^ f) f (X / 2 ^ f % 2 ^ m) n with ⟨i, i1, ⟨i2, ⟨i3, i6⟩, i4⟩, i5⟩ | ⟨g, g2⟩
  · rw [i5]
    have hk : f < l i ∧ rc l n i % 2 ^ f = X % 2 ^ f := by
      rcases ahs_cases l n f i with ⟨_, _, a⟩ | ⟨a, b, _⟩
      · omega
      · exact ⟨a, by rw [← b, i3]⟩
    obtain ⟨m', e, hm⟩ := sz_ge n i1 i3 i6
    rw [hs] at e
    injection e with e
    subst e
    rw [mod_mod_le hm] at i4
    refine fnd_eq hf i1 ⟨i2, ?_⟩
    have e : rc l n i / 2 ^ f % 2 ^ (l i - f) = rc l n i / 2 ^ f := by
      apply Nat.mod_eq_of_lt
      rw [Nat.div_lt_iff_lt_mul (Nat.two_pow_pos f), ← Nat.pow_add, show l i - f + f = l i by omega]
      exact rc_lt l n i
    have := (parts_iff (X := X) (c := rc l n i) (f := f) (z := l i) (by omega)).2 ⟨hk.2.symm, by rw [i4, e]⟩
    rw [this, Nat.mod_eq_of_lt (rc_lt l n i)]
  · rw [g2]
    refine fnd_no fun i hi hb => ?_
    by_cases hk : l i ≤ f
    · exact bg_first h1 hi hb hk h
    · obtain ⟨a, b, c⟩ := bg_far (f := f) hb (by omega)
      obtain ⟨m', e, hm⟩ := sz_ge n hi a b
      rw [hs] at e
      injection e with e
      subst e
      exact g i hi ⟨hb.1, ⟨a, b⟩, by rw [mod_mod_le hm]; exact c⟩
def lk (l : Nat → Nat) (n X h : Nat) : Nat × Nat × Nat :=
  if (fnd l n (X % 2 ^ min h 64) n).2 = 0 then (0, 0, 7) else if h < (fnd l n (X % 2 ^ min h 64) n).2 then (0, 0, 6) else ((fnd l n (X % 2 ^ min h 64) n).1, (fnd l n (X % 2 ^ min h 64) n).2, 0)
def fts (l : Nat → Nat) (n X h i : Nat) : Prop := l i ≠ 0 ∧ X % 2 ^ min (l i) h = rc l n i % 2 ^ min (l i) h
instance (l : Nat → Nat) (n X h i : Nat) : Decidable (fts l n X h i) := inferInstanceAs (Decidable (l i ≠ 0 ∧ X % 2 ^ min (l i) h = rc l n i % 2 ^ min (l i) h))
def som (l : Nat → Nat) (n X h : Nat) : Nat → Bool
  | 0 => false
  | k + 1 => som l n X h k || decide (fts l n X h k)
theorem som_iff (l : Nat → Nat) (n X h : Nat) : ∀ k, som l n X h k = true ↔ ∃ i, i < k ∧ fts l n X h i
  | 0 => by simp [som]
  | k + 1 => by
    simp only [som, Bool.or_eq_true, decide_eq_true_eq, som_iff l n X h k]
    constructor
    · rintro (⟨i, a, b⟩ | b)
      · exact ⟨i, by omega, b⟩
      · exact ⟨k, by omega, b⟩
    · rintro ⟨i, a, b⟩
      by_cases e : i = k
      · subst e; exact .inr b
      · exact .inl ⟨i, by omega, b⟩
theorem bg_cut {l : Nat → Nat} {n X h i : Nat} (hk : l i ≤ h) : bg l n (X % 2 ^ h) i ↔ bg l n X i := by
  unfold bg; rw [mod_mod_le hk]
theorem lk_rest {l : Nat → Nat} {n X h : Nat} (ht : Tbl l n) (hno : ∀ i, i < n → fts l n X (min h 15) i → ¬ l i ≤ min h 15) : lk l n X h = if som l n X (min h 15) n = true then (0, 0, 6) else (0, 0, 7) := by
  have hf := ht.fit
  have h15 := hf.1.2
  unfold lk
  rcases fnd_some l n (X % 2 ^ min h 64) n with ⟨i, i1, i2, i3⟩ | ⟨i1, i2⟩
  · have hft : fts l n X (min h 15) i := ⟨i2.1, by
      have hq := i2.2
      have e1 : X % 2 ^ min h 64 % 2 ^ min (l i) (min h 15) = X % 2 ^ min (l i) (min h 15) := mod_mod_le (by omega)
      rw [← e1, ← mod_mod_le (a := X % 2 ^ min h 64) (k := min (l i) (min h 15)) (m := l i) (by omega), hq]⟩
    have hlt : h < l i := by have := hno i i1 hft; have := h15 i i1; omega
    rw [i3, if_neg i2.1, if_pos hlt, if_pos ((som_iff l n X _ n).2 ⟨i, i1, hft⟩)]
  · rw [i2, if_pos rfl]
    by_cases g : som l n X (min h 15) n = true
    · exfalso
      obtain ⟨i, g1, g2⟩ := (som_iff l n X _ n).1 g
      have hlt := hno i g1 g2
      have hl := h15 i g1
      have e0 : min h 64 = h := by omega
      have e1 : min (l i) (min h 15) = h := by omega
      have g3 := g2.2
      rw [e1] at g3
      rw [e0] at i1
      obtain ⟨j, j1, j2⟩ := bg_goes ht g1 g2.1 (show h < l i by omega) (Nat.mod_lt X (Nat.two_pow_pos h)) (by rw [Nat.mod_mod]; exact g3)
      exact i1 j j1 j2
    · rw [if_neg g]
theorem lk_cases {l : Nat → Nat} {n X h : Nat} (hf : Fit l n) : (∃ i, i < n ∧ l i ≠ 0 ∧ l i ≤ h ∧ X % 2 ^ l i = rc l n i ∧ lk l n X h = (i, l i, 0)) ∨ lk l n X h = (0, 0, 6) ∨ lk l n X h = (0, 0, 7) := by
  unfold lk
  rcases fnd_some l n (X % 2 ^ min h 64) n with ⟨i, i1, i2, i3⟩ | ⟨i1, i2⟩
  · rw [i3, if_neg i2.1]
    by_cases g : h < l i
    · rw [if_pos g]; exact .inr (.inl rfl)
    · have := hf.1.2 i i1
      rw [if_neg g]
      exact .inl ⟨i, i1, i2.1, by omega, ((bg_cut (by omega)).1 i2).2, rfl⟩
  · rw [i2, if_pos rfl]; exact .inr (.inr rfl)
theorem lk_code {l : Nat → Nat} {n X h i : Nat} (hf : Fit l n) (hi : i < n) (h0 : l i ≠ 0) (hle : l i ≤ h) (he : X % 2 ^ l i = rc l n i) : lk l n X h = (i, l i, 0) := by
  have := hf.1.2 i hi
  unfold lk
  rw [fnd_eq hf hi ((bg_cut (show l i ≤ min h 64 by omega)).2 ⟨h0, he⟩), if_neg h0, if_neg (show ¬ h < l i by omega)]
end Go.Proofs.YtolcaknhjjejeaaDoor.M

namespace Go.Proofs.YtolcaknhjjejeaaDoor.I
open M
set_option linter.unusedVariables false
set_option linter.unusedSimpArgs false
abbrev St := Nat × List UInt8
def Rm (α : Type) := ByteArray → Nat → Nat → St → Except Nat (α × St)
def pur {α : Type} (a : α) : Rm α := fun _ _ _ x => .ok (a, x)
def bnd {α β : Type} (r : Rm α) (f : α → Rm β) : Rm β := fun s D L x =>
  match r s D L x with
  | .ok (a, y) => f a s D L y
  | .error e => .error e
def fl {α : Type} (e : Nat) : Rm α := fun _ _ _ _ => .error e
def bits (n : Nat) : Rm Nat := fun s _ _ x => if x.1 + n ≤ 8 * s.size then .ok (nb s x.1 n, (x.1 + n, x.2)) else .error 6
def lok (l : Nat → Nat) (n : Nat) (s : ByteArray) (a : Nat) : Nat × Nat × Nat := lk l n (nb s a (min 15 (8 * s.size - a))) (min 15 (8 * s.size - a))
instance (l : Nat → Nat) (n : Nat) : Decidable (Tbl l n) := inferInstanceAs (Decidable (kind l n = 0 ∨ kind l n = 1 ∨ kind l n = 2))
def nxt (l : Nat → Nat) (n : Nat) : Rm Nat := fun s _ _ x =>
  if Tbl l n then
    if (lok l n s x.1).2.2 = 0 then .ok ((lok l n s x.1).1, (x.1 + (lok l n s x.1).2.1, x.2)) else .error (if (lok l n s x.1).2.2 = 7 then 163 else (lok l n s x.1).2.2)
  else .error 0
def algn : Rm Unit := fun _ _ _ x => .ok ((), (8 * ((x.1 + 7) / 8), x.2))
def byt (s : ByteArray) (p n : Nat) : List UInt8 := (s.data.toList.drop p).take n
def byts (n : Nat) : Rm (List UInt8) := fun s _ _ x => if (x.1 + 7) / 8 + n ≤ s.size then .ok (byt s ((x.1 + 7) / 8) n, (8 * ((x.1 + 7) / 8 + n), x.2)) else .error 6
def app (l : List UInt8) : Rm Unit := fun _ D L x => if L < x.2.length - D + l.length then .error 5 else .ok ((), (x.1, x.2 ++ l))
def gr (b : List UInt8) (d : Nat) : Nat → List UInt8
  | 0 => b
  | k + 1 => gr b d k ++ [(gr b d k).getD ((gr b d k).length - d) 0]
theorem gr_length (b : List UInt8) (d : Nat) : ∀ k, (gr b d k).length = b.length + k
  | 0 => rfl
  | k + 1 => by simp only [gr, List.length_append, List.length_cons, List.length_nil, gr_length b d k]; omega
def copy (t k : Nat) : Rm Unit := fun _ D L x => if x.2.length < t then .error 164 else if L < x.2.length - D + k then .error 5 else .ok ((), (x.1, gr x.2 t k))
def loopR {α β : Type} (f : α → Rm (α ⊕ β)) : Nat → α → Rm β
  | 0, _ => fl 0
  | k + 1, a => bnd (f a) fun r => match r with
    | .inl a => loopR f k a
    | .inr b => pur b
def lenR (y : Nat) : Rm Nat := bnd (bits (if y ≤ 285 then lb (y - 257) else 0)) fun e => if 285 < y ∨ lof (y - 257) e = 0 then fl 163 else pur (lof (y - 257) e)
def dstR (z : Nat) : Rm Nat := bnd (bits (if z ≤ 29 then db z else 0)) fun e => if 29 < z ∨ dof z e = 0 then fl 163 else pur (dof z e)
def matR (y : Nat) (d : Nat → Nat) (m : Nat) : Rm (Unit ⊕ Unit) := bnd (lenR y) fun k => bnd (nxt d m) fun z => bnd (dstR z) fun t => bnd (copy t k) fun _ => pur (.inl ())
def sym1 (l : Nat → Nat) (n : Nat) (d : Nat → Nat) (m : Nat) : Unit → Rm (Unit ⊕ Unit) := fun _ => bnd (nxt l n) fun y =>
  if y < 256 then bnd (app [UInt8.ofNat y]) fun _ => pur (.inl ()) else if y = 256 then pur (.inr ()) else matR y d m
def syms (K : Nat) (l : Nat → Nat) (n : Nat) (d : Nat → Nat) (m : Nat) : Rm Unit := loopR (sym1 l n d m) K ()
def stor : Rm Unit := bnd algn fun _ => bnd (bits 16) fun n => bnd (bits 16) fun t => if n + t ≠ 65535 then fl 161 else bnd (byts n) fun b => app b
def od : List Nat := [16, 17, 18, 0, 8, 7, 9, 6, 10, 5, 11, 4, 12, 3, 13, 2, 14, 1, 15]
def ownR : Nat → Nat → (Nat → Nat) → Rm (Nat → Nat)
  | 0, _, g => pur g
  | k + 1, i, g => bnd (bits 3) fun x => ownR k (i + 1) (fun j => if j = od.getD i 0 then x else g j)
def rbm (s : Nat) : Nat := if s < 16 then 0 else if s = 16 then 2 else if s = 17 then 3 else 7
def len1 (l : Nat → Nat) (N : Nat) (all : List Nat) : Rm (List Nat ⊕ List Nat) :=
  if N ≤ all.length then pur (.inr all) else bnd (nxt l 19) fun y => bnd (bits (rbm y)) fun e =>
    if (y = 16 ∧ all = []) ∨ N < all.length + tms ⟨y, e⟩ then fl 162 else pur (.inl (all ++ List.replicate (tms ⟨y, e⟩) (vlr all ⟨y, e⟩)))
def lit (all : List Nat) : Nat → Nat := fun i => all.getD i 0
def dis (all : List Nat) (a : Nat) : Nat → Nat := fun i => all.getD (a + i) 0
def tabR (all : List Nat) (a b : Nat) : Rm (List Nat × Nat × Nat) :=
  if all.getD 256 0 = 0 ∨ ¬ Tbl (lit all) a ∨ ¬ Tbl (dis all a) b then fl 162 else pur (all, a, b)
def dyn (K : Nat) : Rm (List Nat × Nat × Nat) := bnd (bits 5) fun a => bnd (bits 5) fun b => bnd (bits 4) fun k =>
  if 286 < a + 257 ∨ 30 < b + 1 then fl 162 else bnd (ownR (k + 4) 0 fun _ => 0) fun o => if kind o 19 ≠ 2 then fl 162 else
    bnd (loopR (len1 o (a + 257 + (b + 1))) K []) fun all => tabR all (a + 257) (b + 1)
def fx (j : Nat) : Nat := if j < 144 then 8 else if j < 256 then 9 else if j < 280 then 7 else 8
def body (K k : Nat) : Rm Unit := if k = 0 then stor else if k = 1 then syms K fx 288 (fun _ => 5) 32 else if k = 2 then bnd (dyn K) fun t => syms K (lit t.1) t.2.1 (dis t.1 t.2.1) t.2.2 else fl 160
def blk (K : Nat) : Unit → Rm (Unit ⊕ Unit) := fun _ => bnd (bits 1) fun f => bnd (bits 2) fun k => bnd (body K k) fun _ => pur (if f = 1 then .inr () else .inl ())
def inf (K : Nat) : Rm Unit := loopR (blk K) K ()
def ans (r : Except Nat (Unit × St)) (D : Nat) : List UInt8 × Nat × Nat :=
  match r with
  | .ok (_, y) => (y.2.drop D, (y.1 + 7) / 8, 0)
  | .error e => ([], 0, e)
structure Agr (s s' : ByteArray) (c : Nat) : Prop where
  h1 : c ≤ s.size
  h2 : c ≤ s'.size
  h3 : s.data.toList.take c = s'.data.toList.take c
theorem vl_append : ∀ (l m : List UInt8), vl (l ++ m) = vl l + 256 ^ l.length * vl m
  | [], m => by simp [vl]
  | b :: l, m => by
    simp only [List.cons_append, vl, vl_append l m, List.length_cons]
    rw [Nat.pow_succ', Nat.mul_add, Nat.mul_assoc, Nat.add_assoc]
theorem vl_take (l : List UInt8) (c : Nat) (h : c ≤ l.length) : vl (l.take c) = vl l % 256 ^ c := by
  have h1 := vl_append (l.take c) (l.drop c)
  rw [List.take_append_drop, List.length_take, Nat.min_eq_left h] at h1
  have h2 := vl_lt (l.take c)
  rw [List.length_take, Nat.min_eq_left h] at h2
  rw [h1, Nat.add_mul_mod_self_left, Nat.mod_eq_of_lt h2]
theorem Agr.tx {s s' : ByteArray} {c : Nat} (h : Agr s s' c) : M.tx s % 2 ^ (8 * c) = M.tx s' % 2 ^ (8 * c) := by
  have g1 := vl_take s.data.toList c (by rw [size_list]; exact h.h1)
  have g2 := vl_take s'.data.toList c (by rw [size_list]; exact h.h2)
  rw [h.h3, g2, p256'] at g1
  exact g1.symm
theorem nb_mod (s : ByteArray) (a n : Nat) : nb s a n = M.tx s % 2 ^ (a + n) / 2 ^ a := by
  unfold nb
  rw [Nat.pow_add, Nat.mod_mul_right_div_self]
theorem Agr.nb {s s' : ByteArray} {c a n : Nat} (h : Agr s s' c) (ha : a + n ≤ 8 * c) : M.nb s a n = M.nb s' a n := by
  rw [nb_mod, nb_mod]
  congr 1
  rw [← Nat.mod_mod_of_dvd (M.tx s) (Nat.pow_dvd_pow 2 ha), h.tx, Nat.mod_mod_of_dvd _ (Nat.pow_dvd_pow 2 ha)]
theorem Agr.byt {s s' : ByteArray} {c p n : Nat} (h : Agr s s' c) (hp : p + n ≤ c) : I.byt s p n = I.byt s' p n := by
  have e : ∀ l : List UInt8, (l.drop p).take n = ((l.take c).drop p).take n := fun l => by
    rw [List.drop_take, List.take_take, Nat.min_eq_left (by omega)]
  unfold I.byt
  rw [e, h.h3, ← e]
theorem nb_low (s : ByteArray) {a n m : Nat} (h : m ≤ n) : nb s a n % 2 ^ m = nb s a m := by
  unfold nb
  rw [Nat.mod_mod_of_dvd _ (Nat.pow_dvd_pow 2 h)]
theorem lok_ok {l : Nat → Nat} {n : Nat} {s : ByteArray} {a : Nat} (hf : Fit l n) (h : (lok l n s a).2.2 = 0) (ha : a ≤ 8 * s.size) : ∃ i, i < n ∧ l i ≠ 0 ∧ a + l i ≤ 8 * s.size ∧ nb s a (l i) = rc l n i ∧ lok l n s a = (i, l i, 0) := by
  rcases lk_cases (l := l) (n := n) (X := nb s a (min 15 (8 * s.size - a))) (h := min 15 (8 * s.size - a)) hf with ⟨i, h1, h2, h3, h4, h5⟩ | h5 | h5
  · refine ⟨i, h1, h2, by omega, ?_, h5⟩
    rw [nb_low s h3] at h4
    exact h4
  · unfold lok at h; rw [h5] at h; cases h
  · unfold lok at h; rw [h5] at h; cases h
theorem lok_is {l : Nat → Nat} {n : Nat} {s : ByteArray} {a i : Nat} (hf : Fit l n) (hi : i < n) (h0 : l i ≠ 0) (ha : a + l i ≤ 8 * s.size) (h : nb s a (l i) = rc l n i) : lok l n s a = (i, l i, 0) := by
  have h15 := hf.1.2 i hi
  exact lk_code hf hi h0 (by omega) (by rw [nb_low s (by omega)]; exact h)
theorem lok_cut {l : Nat → Nat} {n : Nat} {s s' : ByteArray} {a i : Nat} (ht : Tbl l n) (hi : i < n) (h0 : l i ≠ 0) (ha : a + l i ≤ 8 * s.size) (h : nb s a (l i) = rc l n i)
    (hg : Agr s s' s'.size) (h1 : a ≤ 8 * s'.size) (h2 : 8 * s'.size < a + l i) : lok l n s' a = (0, 0, 6) := by
  have hf := ht.fit
  have h15 := hf.1.2 i hi
  have e1 : min 15 (8 * s'.size - a) = 8 * s'.size - a := by omega
  have e2 : min (8 * s'.size - a) 15 = 8 * s'.size - a := by omega
  have e3 : nb s' a (8 * s'.size - a) = nb s a (8 * s'.size - a) := (hg.nb (by omega)).symm
  unfold lok
  rw [e1, e3]
  have hfts : fts l n (nb s a (8 * s'.size - a)) (min (8 * s'.size - a) 15) i := by
    refine ⟨h0, ?_⟩
    rw [e2, Nat.min_eq_right (by omega), nb_low s (Nat.le_refl _), ← h, nb_low s (by omega)]
  rw [lk_rest ht, if_pos]
  · exact (som_iff _ _ _ _ _).2 ⟨i, hi, hfts⟩
  · intro j hj hq hle
    have h15j := hf.1.2 j hj
    have hq2 := hq.2
    rw [e2] at hq2 hle
    rw [Nat.min_eq_left hle, nb_low s hle, Nat.mod_eq_of_lt (rc_lt l n j)] at hq2
    have b1 : bg l n (nb s a 15) i := ⟨h0, by rw [nb_low s h15]; exact h⟩
    have b2 : bg l n (nb s a 15) j := ⟨hq.1, by rw [nb_low s h15j]; exact hq2⟩
    have := bg_one hf hi hj b1 b2
    subst this
    omega
structure Nice {α : Type} (r : Rm α) : Prop where
  
  mono : ∀ {s D L x a y}, r s D L x = .ok (a, y) → x.1 ≤ y.1 ∧ x.2.length ≤ y.2.length ∧ y.2.take x.2.length = x.2
  inn : ∀ {s D L x a y}, r s D L x = .ok (a, y) → x.1 ≤ 8 * s.size → y.1 ≤ 8 * s.size
  lim : ∀ {s D L x a y}, r s D L x = .ok (a, y) → D ≤ x.2.length → x.2.length - D ≤ L → y.2.length - D ≤ L
  
  pre : ∀ {s s' D L x a y c}, Agr s s' c → r s D L x = .ok (a, y) → x.1 ≤ 8 * s.size → y.1 ≤ 8 * c → r s' D L x = .ok (a, y)
  
  cut : ∀ {s s' D L x a y}, Agr s s' s'.size → r s D L x = .ok (a, y) → x.1 ≤ 8 * s'.size → 8 * s'.size < y.1 → r s' D L x = .error 6
  
  less : ∀ {s D L x a y L'}, r s D L x = .ok (a, y) → D ≤ x.2.length → x.2.length - D ≤ L' → r s D L' x = if y.2.length - D ≤ L' then .ok (a, y) else .error 5
theorem take_tt {l m k : List UInt8} (h1 : m.take l.length = l) (h2 : k.take m.length = m) (h : l.length ≤ m.length) : k.take l.length = l :=
  (by rw [List.take_take, Nat.min_eq_left h] : k.take l.length = (k.take m.length).take l.length).trans (by rw [h2, h1])
theorem Nice.pur {α : Type} (a : α) : Nice (pur a) where
  mono h := by cases h; exact ⟨Nat.le_refl _, Nat.le_refl _, List.take_length⟩
  inn h g := by cases h; exact g
  lim h _ g := by cases h; exact g
  pre _ h _ _ := by cases h; rfl
  cut _ h g1 g2 := by cases h; omega
  less h _ g := by cases h; rw [if_pos g]; rfl
theorem Nice.fl {α : Type} (e : Nat) : Nice (fl e : Rm α) where
  mono h := by cases h
  inn h := by cases h
  lim h _ := by cases h
  pre _ h := by cases h
  cut _ h := by cases h
  less h _ := by cases h
theorem bnd_ok {α β : Type} {r : Rm α} {f : α → Rm β} {s : ByteArray} {D L : Nat} {x z : St} {b : β} (h : bnd r f s D L x = .ok (b, z)) : ∃ a y, r s D L x = .ok (a, y) ∧ f a s D L y = .ok (b, z) := by
  unfold bnd at h
  cases q : r s D L x with
  | error e => rw [q] at h; cases h
  | ok p => rw [q] at h; exact ⟨p.1, p.2, rfl, h⟩
theorem bnd_of {α β : Type} {r : Rm α} {f : α → Rm β} {s : ByteArray} {D L : Nat} {x y : St} {a : α} (h : r s D L x = .ok (a, y)) : bnd r f s D L x = f a s D L y := by
  unfold bnd; rw [h]
theorem bnd_er {α β : Type} {r : Rm α} {f : α → Rm β} {s : ByteArray} {D L : Nat} {x : St} {e : Nat} (h : r s D L x = .error e) : bnd r f s D L x = .error e := by
  unfold bnd; rw [h]
theorem Nice.bnd {α β : Type} {r : Rm α} {f : α → Rm β} (hr : Nice r) (hf : ∀ a, Nice (f a)) : Nice (bnd r f) where
  mono h := by
    obtain ⟨a, y, h1, h2⟩ := bnd_ok h
    obtain ⟨g1, g2, g3⟩ := hr.mono h1
    obtain ⟨k1, k2, k3⟩ := (hf a).mono h2
    exact ⟨Nat.le_trans g1 k1, Nat.le_trans g2 k2, take_tt g3 k3 g2⟩
  inn h g := by
    obtain ⟨a, y, h1, h2⟩ := bnd_ok h
    exact (hf a).inn h2 (hr.inn h1 g)
  lim h hD g := by
    obtain ⟨a, y, h1, h2⟩ := bnd_ok h
    exact (hf a).lim h2 (Nat.le_trans hD (hr.mono h1).2.1) (hr.lim h1 hD g)
  pre hg h hx hc := by
    obtain ⟨a, y, h1, h2⟩ := bnd_ok h
    have k := ((hf a).mono h2).1
    rw [bnd_of (hr.pre hg h1 hx (by omega))]
    exact (hf a).pre hg h2 (hr.inn h1 hx) hc
  cut {s s' D L x b z} hg h hx hc := by
    obtain ⟨a, y, h1, h2⟩ := bnd_ok h
    have hs := hg.h1
    by_cases q : y.1 ≤ 8 * s'.size
    · rw [bnd_of (hr.pre hg h1 (by omega) q)]
      exact (hf a).cut hg h2 q hc
    · exact bnd_er (hr.cut hg h1 hx (by omega))
  less {s D L x b z L'} h hD hx := by
    obtain ⟨a, y, h1, h2⟩ := bnd_ok h
    have k := ((hf a).mono h2).2.1
    have e1 := hr.less h1 hD hx
    by_cases q : y.2.length - D ≤ L'
    · rw [if_pos q] at e1
      rw [bnd_of e1]
      exact (hf a).less h2 (Nat.le_trans hD (hr.mono h1).2.1) q
    · rw [if_neg q] at e1
      rw [bnd_er e1, if_neg (by omega)]
theorem Nice.ite {α : Type} {c : Prop} [Decidable c] {r t : Rm α} (hr : Nice r) (ht : Nice t) : Nice (if c then r else t) := by split; exact hr; exact ht
theorem Nice.bits (n : Nat) : Nice (bits n) where
  mono h := by
    unfold I.bits at h
    split at h
    · cases h; exact ⟨Nat.le_add_right _ _, Nat.le_refl _, List.take_length⟩
    · cases h
  inn h g := by
    unfold I.bits at h
    split at h
    · cases h; assumption
    · cases h
  lim h hD g := by
    unfold I.bits at h
    split at h
    · cases h; exact g
    · cases h
  pre hg h hx hc := by
    have h2 := hg.h2
    unfold I.bits at h ⊢
    split at h
    · cases h
      simp only at hc
      rw [if_pos (by omega), hg.nb hc]
    · cases h
  cut hg h hx hc := by
    unfold I.bits at h ⊢
    split at h
    · cases h
      simp only at hc
      rw [if_neg (by omega)]
    · cases h
  less h hD g := by
    unfold I.bits at h ⊢
    split at h
    · rename_i q
      cases h; rw [if_pos g, if_pos q]
    · cases h
theorem nxt_ok {l : Nat → Nat} {n : Nat} {s : ByteArray} {D L : Nat} {x y : St} {i : Nat} (h : nxt l n s D L x = .ok (i, y)) (hx : x.1 ≤ 8 * s.size) : Tbl l n ∧ i < n ∧ l i ≠ 0 ∧ x.1 + l i ≤ 8 * s.size ∧ nb s x.1 (l i) = rc l n i ∧ y = (x.1 + l i, x.2) := by
  unfold nxt at h
  split at h
  · rename_i ht
    split at h
    · rename_i q
      obtain ⟨j, h1, h2, h3, h4, h5⟩ := lok_ok ht.fit q hx
      rw [h5] at h
      cases h
      exact ⟨ht, h1, h2, h3, h4, rfl⟩
    · cases h
  · cases h
theorem nxt_is {l : Nat → Nat} {n : Nat} {s : ByteArray} {D L : Nat} {x : St} {i : Nat} (ht : Tbl l n) (hi : i < n) (h0 : l i ≠ 0) (ha : x.1 + l i ≤ 8 * s.size) (h : nb s x.1 (l i) = rc l n i) : nxt l n s D L x = .ok (i, (x.1 + l i, x.2)) := by
  unfold nxt
  rw [if_pos ht, lok_is ht.fit hi h0 ha h, if_pos rfl]
theorem nxt_far {l : Nat → Nat} {n : Nat} {s : ByteArray} {D L : Nat} {x : St} (h : 8 * s.size < x.1) (i : Nat) (y : St) : nxt l n s D L x = .ok (i, y) → False := by
  intro q
  unfold nxt at q
  split at q
  · rename_i ht
    split at q
    · rename_i g
      unfold lok at g
      rw [show min 15 (8 * s.size - x.1) = 0 by omega] at g
      rcases lk_cases (l := l) (n := n) (X := nb s x.1 0) (h := 0) ht.fit with ⟨i, h1, h2, h3, h4, h5⟩ | h5 | h5
      · omega
      · rw [h5] at g; cases g
      · rw [h5] at g; cases g
    · cases q
  · cases q
theorem Nice.nxt (l : Nat → Nat) (n : Nat) : Nice (nxt l n) where
  mono {s D L x a y} h := by
    by_cases hx : x.1 ≤ 8 * s.size
    · obtain ⟨_, _, _, _, _, rfl⟩ := nxt_ok h hx
      exact ⟨Nat.le_add_right _ _, Nat.le_refl _, List.take_length⟩
    · exact (nxt_far (by omega) _ _ h).elim
  inn h g := by
    obtain ⟨_, _, _, h3, _, rfl⟩ := nxt_ok h g
    exact h3
  lim {s D L x a y} h hD g := by
    by_cases hx : x.1 ≤ 8 * s.size
    · obtain ⟨_, _, _, h3, _, rfl⟩ := nxt_ok h hx
      exact g
    · exact (nxt_far (by omega) _ _ h).elim
  pre hg h hx hc := by
    have h2 := hg.h2
    obtain ⟨ht, g1, g2, g3, g4, rfl⟩ := nxt_ok h hx
    simp only at hc
    exact nxt_is ht g1 g2 (by omega) (by rw [← hg.nb hc]; exact g4)
  cut {s s' D L x a y} hg h hx hc := by
    have hs := hg.h1
    obtain ⟨ht, g1, g2, g3, g4, rfl⟩ := nxt_ok h (by omega)
    unfold I.nxt
    rw [if_pos ht, lok_cut ht g1 g2 g3 g4 hg hx hc]
    rfl
  less {s D L x a y L'} h hD g := by
    have e : I.nxt l n s D L' x = I.nxt l n s D L x := rfl
    by_cases hx : x.1 ≤ 8 * s.size
    · rw [e, h]
      obtain ⟨_, _, _, _, _, rfl⟩ := nxt_ok h hx
      rw [if_pos g]
    · exact (nxt_far (by omega) _ _ h).elim
theorem Nice.algn : Nice algn where
  mono {s D L x a y} h := by cases h; exact ⟨by show x.1 ≤ 8 * ((x.1 + 7) / 8); omega, Nat.le_refl _, List.take_length⟩
  inn {s D L x a y} h g := by cases h; show 8 * ((x.1 + 7) / 8) ≤ 8 * s.size; omega
  lim h _ g := by cases h; exact g
  pre _ h _ _ := by cases h; rfl
  cut {s s' D L x a y} hg h g1 g2 := by
    cases h
    have : 8 * s'.size < 8 * ((x.1 + 7) / 8) := g2
    omega
  less h _ g := by cases h; rw [if_pos g]; rfl
theorem byt_length {s : ByteArray} {p n : Nat} (h : p + n ≤ s.size) : (byt s p n).length = n := by
  have := size_list s
  unfold byt
  rw [List.length_take, List.length_drop]; omega
theorem Nice.byts (n : Nat) : Nice (byts n) where
  mono {s D L x a y} h := by
    unfold I.byts at h
    split at h
    · cases h; exact ⟨by show x.1 ≤ 8 * ((x.1 + 7) / 8 + n); omega, Nat.le_refl _, List.take_length⟩
    · cases h
  inn {s D L x a y} h g := by
    unfold I.byts at h
    split at h
    · cases h; show 8 * ((x.1 + 7) / 8 + n) ≤ 8 * s.size; omega
    · cases h
  lim h hD g := by
    unfold I.byts at h
    split at h
    · cases h; exact g
    · cases h
  pre hg h hx hc := by
    have h2 := hg.h2
    unfold I.byts at h ⊢
    split at h
    · cases h
      simp only at hc
      rw [if_pos (by omega), hg.byt (by omega)]
    · cases h
  cut hg h hx hc := by
    unfold I.byts at h ⊢
    split at h
    · cases h
      simp only at hc
      rw [if_neg (by omega)]
    · cases h
  less h hD g := by
    unfold I.byts at h ⊢
    split at h
    · rename_i q
      cases h; rw [if_pos g, if_pos q]
    · cases h
theorem Nice.app (l : List UInt8) : Nice (app l) where
  mono h := by
    unfold I.app at h
    split at h
    · cases h
    · cases h; exact ⟨Nat.le_refl _, by simp, by simp⟩
  inn h g := by
    unfold I.app at h
    split at h
    · cases h
    · cases h; exact g
  lim {s D L x a y} h hD g := by
    unfold I.app at h
    split at h
    · cases h
    · cases h; simp only [List.length_append]; omega
  pre hg h hx hc := by
    unfold I.app at h ⊢
    split at h
    · cases h
    · rename_i q
      cases h; rw [if_neg q]
  cut hg h hx hc := by
    unfold I.app at h
    split at h
    · cases h
    · cases h; simp only at hc; omega
  less {s D L x a y L'} h hD g := by
    unfold I.app at h ⊢
    split at h
    · cases h
    · cases h
      simp only [List.length_append]
      by_cases q : L' < x.2.length - D + l.length
      · rw [if_pos q, if_neg (by omega)]
      · rw [if_neg q]
        by_cases q2 : x.2.length + l.length - D ≤ L'
        · rw [if_pos q2]
        · exfalso; omega
theorem gr_take (b : List UInt8) (d : Nat) : ∀ k, (gr b d k).take b.length = b
  | 0 => List.take_length
  | k + 1 => by
    rw [gr, List.take_append_of_le_length (by rw [gr_length]; omega), gr_take b d k]
theorem Nice.copy (t k : Nat) : Nice (copy t k) where
  mono h := by
    unfold I.copy at h
    split at h
    · cases h
    · split at h
      · cases h
      · cases h; exact ⟨Nat.le_refl _, by simp only [gr_length]; omega, gr_take _ _ _⟩
  inn h g := by
    unfold I.copy at h
    split at h
    · cases h
    · split at h
      · cases h
      · cases h; exact g
  lim {s D L x a y} h hD g := by
    unfold I.copy at h
    split at h
    · cases h
    · split at h
      · cases h
      · cases h; simp only [gr_length]; omega
  pre hg h hx hc := by
    unfold I.copy at h ⊢
    split at h
    · cases h
    · split at h
      · cases h
      · rename_i q1 q2
        cases h; rw [if_neg q1, if_neg q2]
  cut hg h hx hc := by
    unfold I.copy at h
    split at h
    · cases h
    · split at h
      · cases h
      · cases h; simp only at hc; omega
  less {s D L x a y L'} h hD g := by
    unfold I.copy at h ⊢
    split at h
    · cases h
    · rename_i q1
      split at h
      · cases h
      · cases h
        rw [if_neg q1]
        simp only [gr_length]
        by_cases q : L' < x.2.length - D + k
        · rw [if_pos q, if_neg (by omega)]
        · rw [if_neg q, if_pos (by omega)]
theorem Nice.loopR {α β : Type} {f : α → Rm (α ⊕ β)} (hf : ∀ a, Nice (f a)) : ∀ k a, Nice (loopR f k a)
  | 0, _ => Nice.fl 0
  | k + 1, a => Nice.bnd (hf a) fun r => match r with
    | .inl a => Nice.loopR hf k a
    | .inr b => Nice.pur b
theorem Nice.lenR (y : Nat) : Nice (lenR y) := Nice.bnd (Nice.bits _) fun _ => Nice.ite (Nice.fl _) (Nice.pur _)
theorem Nice.dstR (y : Nat) : Nice (dstR y) := Nice.bnd (Nice.bits _) fun _ => Nice.ite (Nice.fl _) (Nice.pur _)
theorem Nice.matR (y : Nat) (d : Nat → Nat) (m : Nat) : Nice (matR y d m) := Nice.bnd (Nice.lenR _) fun _ => Nice.bnd (Nice.nxt _ _) fun _ => Nice.bnd (Nice.dstR _) fun _ => Nice.bnd (Nice.copy _ _) fun _ => Nice.pur _
theorem Nice.sym1 (l : Nat → Nat) (n : Nat) (d : Nat → Nat) (m : Nat) (u : Unit) : Nice (sym1 l n d m u) :=
  Nice.bnd (Nice.nxt _ _) fun _ => Nice.ite (Nice.bnd (Nice.app _) fun _ => Nice.pur _) (Nice.ite (Nice.pur _) (Nice.matR _ _ _))
theorem Nice.syms (K : Nat) (l : Nat → Nat) (n : Nat) (d : Nat → Nat) (m : Nat) : Nice (syms K l n d m) := Nice.loopR (Nice.sym1 l n d m) _ _
theorem Nice.stor : Nice stor := Nice.bnd Nice.algn fun _ => Nice.bnd (Nice.bits _) fun _ => Nice.bnd (Nice.bits _) fun _ => Nice.ite (Nice.fl _) (Nice.bnd (Nice.byts _) fun _ => Nice.app _)
theorem Nice.ownR : ∀ k i g, Nice (ownR k i g)
  | 0, _, _ => Nice.pur _
  | k + 1, i, g => Nice.bnd (Nice.bits _) fun _ => Nice.ownR k _ _
theorem Nice.len1 (l : Nat → Nat) (N : Nat) (all : List Nat) : Nice (len1 l N all) :=
  Nice.ite (Nice.pur _) (Nice.bnd (Nice.nxt _ _) fun _ => Nice.bnd (Nice.bits _) fun _ => Nice.ite (Nice.fl _) (Nice.pur _))
theorem Nice.tabR (all : List Nat) (a b : Nat) : Nice (tabR all a b) := Nice.ite (Nice.fl _) (Nice.pur _)
theorem Nice.dyn (K : Nat) : Nice (dyn K) :=
  Nice.bnd (Nice.bits _) fun _ => Nice.bnd (Nice.bits _) fun _ => Nice.bnd (Nice.bits _) fun _ => Nice.ite (Nice.fl _) (Nice.bnd (Nice.ownR _ _ _) fun _ => Nice.ite (Nice.fl _) (Nice.bnd (Nice.loopR (Nice.len1 _ _) _ _) fun _ => Nice.tabR _ _ _))
theorem Nice.body (K k : Nat) : Nice (body K k) := Nice.ite Nice.stor (Nice.ite (Nice.syms _ _ _ _ _) (Nice.ite (Nice.bnd (Nice.dyn K) fun _ => Nice.syms _ _ _ _ _) (Nice.fl _)))
theorem Nice.blk (K : Nat) (u : Unit) : Nice (blk K u) := Nice.bnd (Nice.bits _) fun _ => Nice.bnd (Nice.bits _) fun _ => Nice.bnd (Nice.body K _) fun _ => Nice.pur _
theorem Nice.inf (K : Nat) : Nice (inf K) := Nice.loopR (Nice.blk K) _ _
end Go.Proofs.YtolcaknhjjejeaaDoor.I

namespace Go.Proofs.YtolcaknhjjejeaaDoor.I
open M
set_option linter.unusedVariables false
set_option linter.unusedSimpArgs false
theorem inf_bounds {K D L : Nat} {s : ByteArray} {d : List UInt8} {y : St} (hD : d.length = D) (h : inf K s D L (0, d) = .ok ((), y)) : (y.2.drop D).length ≤ L ∧ (y.1 + 7) / 8 ≤ s.size ∧ y.2.take D = d := by
  have h1 := (Nice.inf K).lim h (by simp only; omega) (by simp only; omega)
  have h2 := (Nice.inf K).inn h (Nat.zero_le _)
  obtain ⟨_, h3, h4⟩ := (Nice.inf K).mono h
  simp only at h3 h4
  rw [List.length_drop]
  rw [hD] at h4
  exact ⟨h1, by omega, h4⟩
theorem agr_behind {s t b : ByteArray} {n : Nat} (hn : n ≤ s.size) (e : t = s.extract 0 n ++ b) : Agr s t n ∧ n ≤ t.size := by
  have e1 : t.data.toList = s.data.toList.take n ++ b.data.toList := by
    subst e
    simp
  have hs := size_list s
  have ht := size_list t
  have hl : (s.data.toList.take n).length = n := by rw [List.length_take]; omega
  have h2 : n ≤ t.size := by rw [← ht, e1, List.length_append, hl]; omega
  refine ⟨⟨hn, h2, ?_⟩, h2⟩
  rw [e1, List.take_append_of_le_length (by omega), List.take_of_length_le (Nat.le_of_eq hl)]
theorem inf_more {K D L L' n : Nat} {s t b : ByteArray} {d : List UInt8} {y : St} (hD : d.length = D) (h : inf K s D L (0, d) = .ok ((), y)) (hL : L ≤ L') (hn : (y.1 + 7) / 8 = n) (e : t = s.extract 0 n ++ b) : inf K t D L' (0, d) = .ok ((), y) := by
  have hb := inf_bounds hD h
  obtain ⟨h1, _⟩ := agr_behind (b := b) (show n ≤ s.size by omega) e
  have h2 := (Nice.inf K).pre h1 h (Nat.zero_le _) (by omega)
  have h3 := (Nice.inf K).less (L' := L') h2 (by simp only; omega) (by simp only; omega)
  have h4 := hb.1
  rw [List.length_drop] at h4
  rwa [if_pos (by omega)] at h3
theorem inf_cut {K D L c : Nat} {s t : ByteArray} {d : List UInt8} {y : St} (hD : d.length = D) (h : inf K s D L (0, d) = .ok ((), y)) (hn : (y.1 + 7) / 8 = s.size) (hc : c < s.size) (e : t = s.extract 0 c) : inf K t D L (0, d) = .error 6 := by
  have ht : t.size = c := by rw [e, ByteArray.size_extract]; omega
  have e1 : t.data.toList = s.data.toList.take c := by subst e; simp
  have hg : Agr s t t.size := ⟨by omega, Nat.le_refl _, by rw [ht, e1, List.take_take, Nat.min_self]⟩
  exact (Nice.inf K).cut hg h (Nat.zero_le _) (by rw [ht]; omega)
theorem loop_go {α β : Type} {f : α → Rm (α ⊕ β)} {k : Nat} {a a' : α} {s : ByteArray} {D L : Nat} {x y : St} (h : f a s D L x = .ok (.inl a', y)) : loopR f (k + 1) a s D L x = loopR f k a' s D L y := by
  rw [loopR, bnd_of h]
theorem loop_end {α β : Type} {f : α → Rm (α ⊕ β)} {k : Nat} {a : α} {b : β} {s : ByteArray} {D L : Nat} {x y : St} (h : f a s D L x = .ok (.inr b, y)) : loopR f (k + 1) a s D L x = .ok (b, y) := by
  rw [loopR, bnd_of h]; rfl
theorem loop_no {α β : Type} {f : α → Rm (α ⊕ β)} {k : Nat} {a : α} {e : Nat} {s : ByteArray} {D L : Nat} {x : St} (h : f a s D L x = .error e) : loopR f (k + 1) a s D L x = .error e := by
  rw [loopR, bnd_er h]
end Go.Proofs.YtolcaknhjjejeaaDoor.I

namespace Go.Proofs.YtolcaknhjjejeaaDoor.I
open M
set_option linter.unusedVariables false
set_option linter.unusedSimpArgs false
def Nz {α : Type} (s : ByteArray) (r : Rm α) : Prop := ∀ D L x, x.1 ≤ 8 * s.size → r s D L x ≠ .error 0
section
variable {s : ByteArray}
theorem Nz.bnd {α β : Type} {r : Rm α} {f : α → Rm β} (hr : Nz s r) (hn : Nice r) (hf : ∀ D L x a y, x.1 ≤ 8 * s.size → y.1 ≤ 8 * s.size → r s D L x = .ok (a, y) → f a s D L y ≠ .error 0) : Nz s (bnd r f) := fun D L x hx => by
  cases q : r s D L x with
  | error e =>
    rw [bnd_er q]
    intro h
    exact hr D L x hx (by rw [q]; injection h with h; rw [h])
  | ok p => rw [bnd_of (a := p.1) (y := p.2) q]; exact hf D L x p.1 p.2 hx (hn.inn (a := p.1) (y := p.2) q hx) q
theorem Nz.bind {α β : Type} {r : Rm α} {f : α → Rm β} (hr : Nz s r) (hn : Nice r) (hf : ∀ a, Nz s (f a)) : Nz s (I.bnd r f) := hr.bnd hn fun D L x a y _ hy _ => hf a D L y hy
theorem Nz.pur {α : Type} (a : α) : Nz s (pur a) := fun _ _ _ _ h => by cases h
theorem Nz.fl {α : Type} (e : Nat) (he : e ≠ 0) : Nz s (fl e : Rm α) := fun _ _ _ _ h => by injection h with h; exact he h
theorem Nz.ite {α : Type} {c : Prop} [Decidable c] {r t : Rm α} (hr : Nz s r) (ht : Nz s t) : Nz s (if c then r else t) := by split; exact hr; exact ht
theorem Nz.bits (n : Nat) : Nz s (bits n) := fun D L x _ h => by
  unfold I.bits at h
  split at h <;> cases h
theorem Nz.nxt {l : Nat → Nat} {n : Nat} (ht : Tbl l n) : Nz s (nxt l n) := fun D L x _ h => by
  unfold I.nxt at h
  rw [if_pos ht] at h
  split at h
  · cases h
  · rename_i q
    injection h with h
    split at h
    · cases h
    · exact q h
theorem Nz.algn : Nz s algn := fun _ _ _ _ h => by cases h
theorem Nz.byts (n : Nat) : Nz s (byts n) := fun D L x _ h => by
  unfold I.byts at h
  split at h <;> cases h
theorem Nz.app (l : List UInt8) : Nz s (app l) := fun D L x _ h => by
  unfold I.app at h
  split at h <;> cases h
theorem Nz.copy (t k : Nat) : Nz s (copy t k) := fun D L x _ h => by
  unfold I.copy at h
  split at h
  · cases h
  · split at h <;> cases h
theorem loop_nz {α β : Type} {f : α → Rm (α ⊕ β)} (h1 : ∀ a, Nz s (f a)) (h2 : ∀ a D L x a' y, x.1 ≤ 8 * s.size → f a s D L x = .ok (.inl a', y) → x.1 < y.1 ∧ y.1 ≤ 8 * s.size) :
    ∀ (k : Nat) (a : α) (D L : Nat) (x : St), x.1 ≤ 8 * s.size → 8 * s.size - x.1 < k → loopR f k a s D L x ≠ .error 0
  | 0, a, D, L, x, hx, hk => by omega
  | k + 1, a, D, L, x, hx, hk => by
    cases q : f a s D L x with
    | error e =>
      rw [loop_no q]
      intro h
      exact h1 a D L x hx (by rw [q]; injection h with h; rw [h])
    | ok p =>
      obtain ⟨r, y⟩ := p
      cases r with
      | inl a' =>
        obtain ⟨g1, g2⟩ := h2 a D L x a' y hx q
        rw [loop_go q]
        exact loop_nz h1 h2 k a' D L y g2 (by omega)
      | inr b => rw [loop_end q]; intro h; cases h
theorem Nz.lenR (y : Nat) : Nz s (lenR y) := (Nz.bits _).bind (Nice.bits _) fun _ => Nz.ite (Nz.fl _ (by decide)) (Nz.pur _)
theorem Nz.dstR (y : Nat) : Nz s (dstR y) := (Nz.bits _).bind (Nice.bits _) fun _ => Nz.ite (Nz.fl _ (by decide)) (Nz.pur _)
variable {l d : Nat → Nat} {n m : Nat}
theorem Nz.matR (y : Nat) (hd : Tbl d m) : Nz s (matR y d m) :=
  (Nz.lenR y).bind (Nice.lenR y) fun _ => (Nz.nxt hd).bind (Nice.nxt _ _) fun _ => (Nz.dstR _).bind (Nice.dstR _) fun _ => (Nz.copy _ _).bind (Nice.copy _ _) fun _ => Nz.pur _
theorem Nz.sym1 (hl : Tbl l n) (hd : Tbl d m) (u : Unit) : Nz s (sym1 l n d m u) :=
  (Nz.nxt hl).bind (Nice.nxt _ _) fun _ => Nz.ite ((Nz.app _).bind (Nice.app _) fun _ => Nz.pur _) (Nz.ite (Nz.pur _) (Nz.matR _ hd))
theorem sym1_fwd {D L : Nat} {x y : St} {u : Unit} {r : Unit ⊕ Unit} (h : sym1 l n d m u s D L x = .ok (r, y)) (hx : x.1 ≤ 8 * s.size) : x.1 < y.1 ∧ y.1 ≤ 8 * s.size := by
  have hin := (Nice.sym1 l n d m u).inn h hx
  unfold I.sym1 at h
  obtain ⟨i, x1, h1, h2⟩ := bnd_ok h
  obtain ⟨_, _, h0, _, _, rfl⟩ := nxt_ok h1 hx
  have hm : Nice (if i < 256 then I.bnd (I.app [UInt8.ofNat i]) fun _ => I.pur (Sum.inl ()) else if i = 256 then I.pur (Sum.inr ()) else I.matR i d m : Rm (Unit ⊕ Unit)) :=
    Nice.ite ((Nice.app _).bnd fun _ => Nice.pur _) (Nice.ite (Nice.pur _) (Nice.matR _ _ _))
  have := (hm.mono h2).1
  simp only at this
  exact ⟨by omega, hin⟩
theorem Nz.syms {K : Nat} (hl : Tbl l n) (hd : Tbl d m) (hK : 8 * s.size < K) : Nz s (syms K l n d m) := fun D L x hx =>
  loop_nz (f := I.sym1 l n d m) (fun u => Nz.sym1 hl hd u) (fun u D L x a y hx h => sym1_fwd h hx) K () D L x hx (by omega)
theorem Nz.stor : Nz s stor := Nz.algn.bind Nice.algn fun _ => (Nz.bits _).bind (Nice.bits _) fun _ => (Nz.bits _).bind (Nice.bits _) fun _ => Nz.ite (Nz.fl _ (by decide)) ((Nz.byts _).bind (Nice.byts _) fun _ => Nz.app _)
theorem Nz.ownR : ∀ (k i : Nat) (g : Nat → Nat), Nz s (ownR k i g)
  | 0, _, g => Nz.pur g
  | k + 1, i, g => (Nz.bits _).bind (Nice.bits _) fun x => Nz.ownR k (i + 1) _
theorem Nz.len1 {N : Nat} (hl : Tbl l 19) (all : List Nat) : Nz s (len1 l N all) :=
  Nz.ite (Nz.pur _) ((Nz.nxt hl).bind (Nice.nxt _ _) fun _ => (Nz.bits _).bind (Nice.bits _) fun _ => Nz.ite (Nz.fl _ (by decide)) (Nz.pur _))
theorem len1_fwd {N D L : Nat} {all all' : List Nat} {x y : St} (h : len1 l N all s D L x = .ok (.inl all', y)) (hx : x.1 ≤ 8 * s.size) : x.1 < y.1 ∧ y.1 ≤ 8 * s.size := by
  have hin := (Nice.len1 l N all).inn h hx
  unfold I.len1 at h
  split at h
  · cases h
  · obtain ⟨i, x1, h1, h2⟩ := bnd_ok h
    obtain ⟨_, _, h0, _, _, rfl⟩ := nxt_ok h1 hx
    obtain ⟨e, x2, h3, h4⟩ := bnd_ok h2
    have g1 := ((Nice.bits _).mono h3).1
    simp only at g1
    split at h4
    · cases h4
    · cases h4
      exact ⟨by omega, hin⟩
theorem tabR_ok {all : List Nat} {a b D L : Nat} {x y : St} {t : List Nat × Nat × Nat} (h : tabR all a b s D L x = .ok (t, y)) : Tbl (lit t.1) t.2.1 ∧ Tbl (dis t.1 t.2.1) t.2.2 := by
  unfold tabR at h
  split at h
  · cases h
  · rename_i q
    cases h
    exact ⟨Classical.byContradiction fun e => q (.inr (.inl e)), Classical.byContradiction fun e => q (.inr (.inr e))⟩
theorem Nz.tabR (all : List Nat) (a b : Nat) : Nz s (tabR all a b) := Nz.ite (Nz.fl _ (by decide)) (Nz.pur _)
theorem Nz.dyn {K : Nat} (hK : 8 * s.size < K) : Nz s (dyn K) :=
  (Nz.bits _).bind (Nice.bits _) fun a => (Nz.bits _).bind (Nice.bits _) fun b => (Nz.bits _).bind (Nice.bits _) fun k => Nz.ite (Nz.fl _ (by decide)) ((Nz.ownR _ _ _).bind (Nice.ownR _ _ _) fun o => by
    by_cases ho : kind o 19 ≠ 2
    · rw [if_pos ho]; exact Nz.fl _ (by decide)
    · rw [if_neg ho]
      have ht : Tbl o 19 := .inr (.inr (Classical.byContradiction ho))
      refine Nz.bind (fun D L x hx => ?_) (Nice.loopR (fun a => Nice.len1 _ _ a) _ _) fun _ => Nz.tabR _ _ _
      exact loop_nz (fun all => Nz.len1 ht all) (fun all D L x a y hx h => len1_fwd h hx) K [] D L x hx (by omega))
theorem dyn_ok {K D L : Nat} {x y : St} {t : List Nat × Nat × Nat} (h : dyn K s D L x = .ok (t, y)) : Tbl (lit t.1) t.2.1 ∧ Tbl (dis t.1 t.2.1) t.2.2 := by
  unfold dyn at h
  obtain ⟨a, x1, h1, h2⟩ := bnd_ok h
  obtain ⟨b, x2, h3, h4⟩ := bnd_ok h2
  obtain ⟨k, x3, h5, h6⟩ := bnd_ok h4
  split at h6
  · cases h6
  · obtain ⟨o, x4, h7, h8⟩ := bnd_ok h6
    split at h8
    · cases h8
    · obtain ⟨all, x5, h9, h10⟩ := bnd_ok h8
      exact tabR_ok h10
theorem Nz.body {K : Nat} (hK : 8 * s.size < K) (k : Nat) : Nz s (body K k) := by
  unfold I.body
  refine Nz.ite Nz.stor (Nz.ite (Nz.syms (by decide +kernel) (by decide +kernel) hK) (Nz.ite ((Nz.dyn hK).bnd (Nice.dyn K) ?_) (Nz.fl _ (by decide))))
  intro D L x t y hx hy h
  obtain ⟨h1, h2⟩ := dyn_ok h
  exact Nz.syms h1 h2 hK D L y hy
theorem Nz.blk {K : Nat} (hK : 8 * s.size < K) (u : Unit) : Nz s (blk K u) :=
  (Nz.bits _).bind (Nice.bits _) fun _ => (Nz.bits _).bind (Nice.bits _) fun _ => (Nz.body hK _).bind (Nice.body _ _) fun _ => Nz.pur _
theorem blk_fwd {K D L : Nat} {x y : St} {u : Unit} {b : Unit ⊕ Unit} (h : blk K u s D L x = .ok (b, y)) (hx : x.1 ≤ 8 * s.size) : x.1 < y.1 ∧ y.1 ≤ 8 * s.size := by
  have hin := (Nice.blk K u).inn h hx
  unfold I.blk at h
  obtain ⟨f, x1, h1, h2⟩ := bnd_ok h
  obtain ⟨k, x2, h3, h4⟩ := bnd_ok h2
  obtain ⟨v, x3, h5, h6⟩ := bnd_ok h4
  have m1 := ((Nice.bits 1).mono h1).1
  have m3 := ((Nice.body K k).mono h5).1
  unfold I.bits at h3
  split at h3
  · cases h3
    cases h6
    simp only at m3
    exact ⟨by omega, hin⟩
  · cases h3
theorem inf_nz {K D L : Nat} {x : St} (hK : 8 * s.size < K) (hx : x.1 ≤ 8 * s.size) : inf K s D L x ≠ .error 0 :=
  loop_nz (f := I.blk K) (fun u => Nz.blk hK u) (fun u D L x a y hx h => blk_fwd h hx) K () D L x hx (by omega)
end
end Go.Proofs.YtolcaknhjjejeaaDoor.I
