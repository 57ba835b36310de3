/- The least weight of whole lengths, length by length: what it finds, and that it finds the least. No program. -/
import Derived.Test.YteicamfelamfhaaMathU
namespace Go.Proofs.Yteicamfelamfhaa.M
set_option linter.unusedVariables false

def bmin : Option Nat → Option Nat → Option Nat
  | none, y => y
  | some x, none => some x
  | some x, some y => if y < x then some y else some x
/-- the least of the first n -/
def lp (g : Nat → Option Nat) : Nat → Option Nat
  | 0 => none
  | n + 1 => bmin (lp g n) (g n)
/-- what the counts from fr on, so many, are together -/
def pre (f : Nat → Nat) (N fr : Nat) (j : Nat) : Nat := sm (fun t => if fr + t < N then f (fr + t) else 0) j
/-- the least weight of the counts from fr on, where co codes are left at the length L + 1 - d -/
def B (f : Nat → Nat) (N L : Nat) : Nat → Nat → Nat → Option Nat
  | 0, fr, co => if fr = N ∧ co = 0 then some 0 else none
  | d + 1, fr, co => if fr = N ∧ co = 0 then some 0 else if N - fr < co ∨ co = 0 then none else lp (fun j => (B f N L d (fr + j) (2 * (co - j))).map (· + (L - d) * pre f N fr j)) (co + 1)
def enc : Option Nat → Int
  | none => -1
  | some x => x
theorem enc_nonneg {o : Option Nat} (h : 0 ≤ enc o) : ∃ x, o = some x := by
  cases o with
  | none => simp [enc] at h
  | some x => exact ⟨x, rfl⟩

theorem lp_some {g : Nat → Option Nat} : ∀ {n v : Nat}, lp g n = some v → ∃ j, j < n ∧ g j = some v
  | 0, v, h => by simp [lp] at h
  | n + 1, v, h => by
    simp only [lp] at h
    cases h1 : lp g n with
    | none =>
      rw [h1] at h
      exact ⟨n, by omega, h⟩
    | some x =>
      rw [h1] at h
      cases h2 : g n with
      | none =>
        rw [h2] at h
        obtain ⟨j, j1, j2⟩ := lp_some (v := v) (n := n) (by rw [h1]; exact h)
        exact ⟨j, by omega, j2⟩
      | some y =>
        rw [h2] at h
        simp only [bmin] at h
        split at h
        · exact ⟨n, by omega, by rw [h2]; exact h⟩
        · obtain ⟨j, j1, j2⟩ := lp_some (v := v) (n := n) (by rw [h1]; exact h)
          exact ⟨j, by omega, j2⟩
theorem lp_least {g : Nat → Option Nat} : ∀ {n j x : Nat}, j < n → g j = some x → ∃ v, lp g n = some v ∧ v ≤ x
  | 0, j, x, h, _ => by omega
  | n + 1, j, x, h, hg => by
    simp only [lp]
    by_cases e : j = n
    · subst e
      rw [hg]
      cases h1 : lp g j with
      | none => exact ⟨x, rfl, Nat.le_refl _⟩
      | some y =>
        simp only [bmin]
        by_cases q : x < y
        · rw [if_pos q]; exact ⟨x, rfl, Nat.le_refl _⟩
        · rw [if_neg q]; exact ⟨y, rfl, by omega⟩
    · obtain ⟨v, h1, h2⟩ := lp_least (n := n) (by omega) hg
      rw [h1]
      cases h3 : g n with
      | none => exact ⟨v, rfl, h2⟩
      | some y =>
        simp only [bmin]
        by_cases q : y < v
        · rw [if_pos q]; exact ⟨y, rfl, by omega⟩
        · rw [if_neg q]; exact ⟨v, rfl, h2⟩

theorem sm_split (F : Nat → Nat) (a : Nat) : ∀ b, sm F (a + b) = sm F a + sm (fun t => F (a + t)) b
  | 0 => by simp [sm]
  | b + 1 => by rw [← Nat.add_assoc]; simp only [sm]; rw [sm_split F a b]; omega
theorem sm_rev (F : Nat → Nat) : ∀ n, sm (fun t => F (n - 1 - t)) n = sm F n
  | 0 => rfl
  | n + 1 => by
    have h := sm_split (fun t => F (n + 1 - 1 - t)) 1 n
    rw [Nat.add_comm 1 n] at h
    rw [h]
    have e : sm (fun t => F (n + 1 - 1 - (1 + t))) n = sm (fun t => F (n - 1 - t)) n := sm_congr n (fun t ht => by congr 1; omega)
    rw [e, sm_rev F n]
    simp only [sm]
    rw [show n + 1 - 1 - 0 = n by omega]; omega

section
variable {f : Nat → Nat} {N L : Nat}
theorem pre_eq {fr j : Nat} (h : fr + j ≤ N) : pre f N fr j = sm (fun t => f (fr + t)) j := by
  unfold pre
  exact sm_congr j (fun t ht => if_pos (by omega))
/-- what is found are whole lengths -/
theorem B_sound : ∀ d, d ≤ L → ∀ fr co v, fr ≤ N → B f N L d fr co = some v → ∃ l : Nat → Nat, (∀ i, fr ≤ i → i < N → L + 1 - d ≤ l i ∧ l i ≤ L) ∧ 2 * sm (fun t => 2 ^ (L - l (fr + t))) (N - fr) = co * 2 ^ d ∧ v = sm (fun t => l (fr + t) * f (fr + t)) (N - fr)
  | 0, _, fr, co, v, hfr, h => by
    simp only [B] at h
    split at h
    · rename_i q
      obtain ⟨rfl, rfl⟩ := q
      exact ⟨fun _ => 0, fun i h1 h2 => by omega, by rw [Nat.sub_self]; simp [sm], by rw [Nat.sub_self]; exact (Option.some.inj h).symm⟩
    · cases h
  | d + 1, hd, fr, co, v, hfr, h => by
    simp only [B] at h
    split at h
    · rename_i q
      obtain ⟨rfl, rfl⟩ := q
      exact ⟨fun _ => 0, fun i h1 h2 => by omega, by rw [Nat.sub_self]; simp [sm], by rw [Nat.sub_self]; exact (Option.some.inj h).symm⟩
    · split at h
      · cases h
      · rename_i q1 q2
        obtain ⟨j, hj, hg⟩ := lp_some h
        cases hb : B f N L d (fr + j) (2 * (co - j)) with
        | none => rw [hb] at hg; cases hg
        | some x =>
          rw [hb] at hg
          have hv : x + (L - d) * pre f N fr j = v := by simpa using hg
          have hjN : fr + j ≤ N := by omega
          obtain ⟨l, h1, h2, h3⟩ := B_sound d (by omega) (fr + j) (2 * (co - j)) x hjN hb
          refine ⟨fun i => if i < fr + j then L - d else l i, fun i g1 g2 => ?_, ?_, ?_⟩
          · show L + 1 - (d + 1) ≤ (if i < fr + j then L - d else l i) ∧ (if i < fr + j then L - d else l i) ≤ L
            by_cases c : i < fr + j
            · rw [if_pos c]; omega
            · rw [if_neg c]; have := h1 i (by omega) g2; omega
          · rw [show N - fr = j + (N - (fr + j)) by omega, sm_split]
            have e1 : sm (fun t => 2 ^ (L - (if fr + t < fr + j then L - d else l (fr + t)))) j = j * 2 ^ d := by
              rw [← sm_const]
              exact sm_congr j (fun t ht => by rw [if_pos (by omega)]; congr 1; omega)
            have e2 : sm (fun t => 2 ^ (L - (if fr + (j + t) < fr + j then L - d else l (fr + (j + t))))) (N - (fr + j)) = sm (fun t => 2 ^ (L - l (fr + j + t))) (N - (fr + j)) :=
              sm_congr _ (fun t ht => by rw [if_neg (by omega), Nat.add_assoc])
            show 2 * (sm (fun t => 2 ^ (L - (if fr + t < fr + j then L - d else l (fr + t)))) j + sm (fun t => 2 ^ (L - (if fr + (j + t) < fr + j then L - d else l (fr + (j + t))))) (N - (fr + j))) = _
            rw [e1, e2, Nat.mul_add, h2, Nat.pow_succ]
            obtain ⟨y, rfl⟩ : ∃ y, co = j + y := ⟨co - j, by omega⟩
            rw [show j + y - j = y by omega, Nat.add_mul, Nat.mul_comm (2 ^ d) 2, Nat.mul_assoc 2 y, Nat.mul_left_comm 2 j, Nat.mul_left_comm 2 y]
          · rw [show N - fr = j + (N - (fr + j)) by omega, sm_split]
            have e1 : sm (fun t => (if fr + t < fr + j then L - d else l (fr + t)) * f (fr + t)) j = (L - d) * sm (fun t => f (fr + t)) j := by
              rw [Nat.mul_comm, ← sm_mul]
              exact sm_congr j (fun t ht => by rw [if_pos (by omega), Nat.mul_comm])
            have e2 : sm (fun t => (if fr + (j + t) < fr + j then L - d else l (fr + (j + t))) * f (fr + (j + t))) (N - (fr + j)) = sm (fun t => l (fr + j + t) * f (fr + j + t)) (N - (fr + j)) :=
              sm_congr _ (fun t ht => by rw [if_neg (by omega), Nat.add_assoc])
            show _ = sm (fun t => (if fr + t < fr + j then L - d else l (fr + t)) * f (fr + t)) j + sm (fun t => (if fr + (j + t) < fr + j then L - d else l (fr + (j + t))) * f (fr + (j + t))) (N - (fr + j))
            rw [e1, e2, ← h3, ← pre_eq hjN]; omega
/-- so many of the first are of this length -/
theorem first_len (l : Nat → Nat) (x : Nat) : ∀ k fr, (∀ i j, fr ≤ i → i ≤ j → j < fr + k → l i ≤ l j) → (∀ i, fr ≤ i → i < fr + k → x ≤ l i) → ∃ j, j ≤ k ∧ (∀ i, fr ≤ i → i < fr + j → l i = x) ∧ (∀ i, fr + j ≤ i → i < fr + k → x + 1 ≤ l i)
  | 0, fr, _, _ => ⟨0, Nat.le_refl _, fun i h1 h2 => by omega, fun i h1 h2 => by omega⟩
  | k + 1, fr, hm, hx => by
    by_cases q : l fr = x
    · obtain ⟨j, h1, h2, h3⟩ := first_len l x k (fr + 1) (fun i j g1 g2 g3 => hm i j (by omega) g2 (by omega)) (fun i g1 g2 => hx i (by omega) (by omega))
      refine ⟨j + 1, by omega, fun i g1 g2 => ?_, fun i g1 g2 => h3 i (by omega) (by omega)⟩
      by_cases e : i = fr
      · rw [e]; exact q
      · exact h2 i (by omega) (by omega)
    · refine ⟨0, Nat.zero_le _, fun i h1 h2 => by omega, fun i h1 h2 => ?_⟩
      have g1 := hx fr (Nat.le_refl _) (by omega)
      have g2 := hm fr i (Nat.le_refl _) (by omega) h2
      omega
/-- no whole lengths that rise weigh less -/
theorem B_least : ∀ d, d ≤ L → ∀ fr co (l : Nat → Nat), fr ≤ N → (∀ i j, fr ≤ i → i ≤ j → j < N → l i ≤ l j) → (∀ i, fr ≤ i → i < N → L + 1 - d ≤ l i ∧ l i ≤ L) → 2 * sm (fun t => 2 ^ (L - l (fr + t))) (N - fr) = co * 2 ^ d → ∃ v, B f N L d fr co = some v ∧ v ≤ sm (fun t => l (fr + t) * f (fr + t)) (N - fr)
  | 0, _, fr, co, l, hfr, hm, hl, hk => by
    have hN : fr = N := by
      apply Classical.byContradiction
      intro q
      have := hl fr (Nat.le_refl _) (by omega)
      omega
    subst hN
    rw [Nat.sub_self] at hk ⊢
    simp only [sm, Nat.pow_zero, Nat.mul_one, Nat.mul_zero] at hk ⊢
    subst hk
    exact ⟨0, by simp [B], Nat.le_refl _⟩
  | d + 1, hd, fr, co, l, hfr, hm, hl, hk => by
    by_cases hN : fr = N
    · subst hN
      rw [Nat.sub_self] at hk ⊢
      simp only [sm, Nat.mul_zero] at hk ⊢
      have h0 : co = 0 := by
        rcases Nat.mul_eq_zero.1 hk.symm with g | g
        · exact g
        · have := Nat.two_pow_pos (d + 1); omega
      subst h0
      exact ⟨0, by simp [B], Nat.le_refl _⟩
    · obtain ⟨j, j1, j2, j3⟩ := first_len l (L - d) (N - fr) fr (fun i j g1 g2 g3 => hm i j g1 g2 (by omega)) (fun i g1 g2 => by have := hl i g1 (by omega); omega)
      have hjN : fr + j ≤ N := by omega
      have hp := Nat.two_pow_pos d
      rw [show N - fr = j + (N - (fr + j)) by omega, sm_split] at hk ⊢
      have e1 : sm (fun t => 2 ^ (L - l (fr + t))) j = j * 2 ^ d := by
        rw [← sm_const]
        exact sm_congr j (fun t ht => by rw [j2 (fr + t) (by omega) (by omega)]; congr 1; omega)
      have e2 : sm (fun t => 2 ^ (L - l (fr + (j + t)))) (N - (fr + j)) = sm (fun t => 2 ^ (L - l (fr + j + t))) (N - (fr + j)) := sm_congr _ (fun t ht => by rw [Nat.add_assoc])
      have e3 : sm (fun t => l (fr + t) * f (fr + t)) j = (L - d) * pre f N fr j := by
        rw [pre_eq hjN, Nat.mul_comm, ← sm_mul]
        exact sm_congr j (fun t ht => by rw [j2 (fr + t) (by omega) (by omega), Nat.mul_comm])
      have e4 : sm (fun t => l (fr + (j + t)) * f (fr + (j + t))) (N - (fr + j)) = sm (fun t => l (fr + j + t) * f (fr + j + t)) (N - (fr + j)) := sm_congr _ (fun t ht => by rw [Nat.add_assoc])
      rw [e1, e2, Nat.pow_succ] at hk
      rw [e3, e4]
      -- what is left for the rest
      have hco : j ≤ co := by
        apply Nat.le_of_mul_le_mul_right _ (show 0 < 2 ^ d * 2 by omega)
        rw [← hk, Nat.mul_add]
        have : j * (2 ^ d * 2) = 2 * (j * 2 ^ d) := by rw [Nat.mul_comm (2 ^ d) 2, Nat.mul_left_comm]
        omega
      have hrest : 2 * sm (fun t => 2 ^ (L - l (fr + j + t))) (N - (fr + j)) = 2 * (co - j) * 2 ^ d := by
        obtain ⟨y, rfl⟩ : ∃ y, co = j + y := ⟨co - j, by omega⟩
        have a1 : (j + y) * (2 ^ d * 2) = 2 * (j * 2 ^ d) + 2 * (y * 2 ^ d) := by rw [Nat.mul_comm (2 ^ d) 2, Nat.mul_left_comm, Nat.add_mul, Nat.mul_add]
        rw [a1, Nat.mul_add] at hk
        rw [show j + y - j = y by omega, Nat.mul_assoc]
        omega
      obtain ⟨x, h1, h2⟩ := B_least d (by omega) (fr + j) (2 * (co - j)) l hjN (fun a b g1 g2 g3 => hm a b (by omega) g2 g3) (fun i g1 g2 => by
        have a1 := j3 i g1 (by omega)
        have a2 := hl i (by omega) g2
        omega) hrest
      have hcN : co ≤ N - fr := by
        apply Nat.le_of_mul_le_mul_right _ (show 0 < 2 ^ d * 2 by omega)
        rw [← hk]
        have b1 : sm (fun t => 2 ^ (L - l (fr + j + t))) (N - (fr + j)) ≤ (N - (fr + j)) * 2 ^ d := by
          rw [← sm_const]
          refine sm_le _ (fun t ht => Nat.pow_le_pow_right (by omega) ?_)
          have := j3 (fr + j + t) (by omega) (by omega)
          omega
        have b2 : (N - fr) * (2 ^ d * 2) = 2 * (j * 2 ^ d + (N - (fr + j)) * 2 ^ d) := by
          rw [← Nat.add_mul, show j + (N - (fr + j)) = N - fr by omega, Nat.mul_comm (2 ^ d) 2, Nat.mul_left_comm]
        rw [b2]
        omega
      have hc0 : co ≠ 0 := by
        intro g
        subst g
        have j0 : j = 0 := by omega
        subst j0
        obtain ⟨z, hz⟩ : ∃ z, N - (fr + 0) = z + 1 := ⟨N - fr - 1, by omega⟩
        rw [hz] at hrest
        simp only [sm] at hrest
        have := Nat.two_pow_pos (L - l (fr + 0 + z))
        omega
      simp only [B]
      rw [if_neg (by omega), if_neg (by omega)]
      obtain ⟨v, v1, v2⟩ := lp_least (g := fun j => (B f N L d (fr + j) (2 * (co - j))).map (· + (L - d) * pre f N fr j)) (n := co + 1) (j := j) (x := x + (L - d) * pre f N fr j) (by omega) (by rw [h1]; rfl)
      exact ⟨v, v1, by omega⟩
/-- what is found is not great -/
theorem B_le {M : Nat} (hf : ∀ i, f i ≤ M) {d fr co v : Nat} (hd : d ≤ L) (hfr : fr ≤ N) (h : B f N L d fr co = some v) : v ≤ N * (L * M) := by
  obtain ⟨l, h1, _, rfl⟩ := B_sound d hd fr co v hfr h
  have a1 : sm (fun t => l (fr + t) * f (fr + t)) (N - fr) ≤ (N - fr) * (L * M) := by
    rw [← sm_const]
    exact sm_le _ (fun t ht => Nat.mul_le_mul (h1 (fr + t) (by omega) (by omega)).2 (hf _))
  exact Nat.le_trans a1 (Nat.mul_le_mul_right _ (by omega))
theorem pre_le {M : Nat} (hf : ∀ i, f i ≤ M) (fr j : Nat) : pre f N fr j ≤ j * M := by
  unfold pre
  rw [← sm_const]
  exact sm_le _ (fun t ht => by show (if fr + t < N then f (fr + t) else 0) ≤ M; split; exact hf _; omega)
end
end Go.Proofs.Yteicamfelamfhaa.M
