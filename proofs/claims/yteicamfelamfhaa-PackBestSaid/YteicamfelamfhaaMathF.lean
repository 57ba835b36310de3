/- Numbers put in falling order: what is there stays, and there is one falling order. No program. -/
import Derived.Test.YteicamfelamfhaaMathB
namespace Go.Proofs.Yteicamfelamfhaa.M
set_option linter.unusedVariables false

/-- a number is moved down -/
def mvN (z : Nat → Nat) (k i t : Nat) : Nat := if t = k then z i else if k < t ∧ t ≤ i then z (t - 1) else z t
def swN (z : Nat → Nat) (k t : Nat) : Nat := if t = k then z (k + 1) else if t = k + 1 then z k else z t
theorem mvN_self (z : Nat → Nat) (i t : Nat) : mvN z i i t = z t := by
  unfold mvN; split
  · subst_vars; rfl
  · rw [if_neg (by omega)]
theorem mvN_step (z : Nat → Nat) {k i : Nat} (h : k < i) (t : Nat) : swN (mvN z (k + 1) i) k t = mvN z k i t := by
  unfold swN mvN
  by_cases h1 : t = k
  · subst h1
    rw [if_pos rfl, if_pos rfl, if_pos rfl]
  · rw [if_neg h1]
    by_cases h2 : t = k + 1
    · subst h2
      rw [if_pos rfl, if_neg (by omega), if_neg (by omega), if_neg (by omega), if_pos (by omega)]; rfl
    · rw [if_neg h2, if_neg h2, if_neg h1]
      by_cases h3 : k + 1 < t ∧ t ≤ i
      · rw [if_pos h3, if_pos (by omega)]
      · rw [if_neg h3, if_neg (by omega)]
theorem swN_sum (G : Nat → Nat) (z : Nat → Nat) (k : Nat) : ∀ n, k + 2 ≤ n → sm (fun t => G (swN z k t)) n = sm (fun t => G (z t)) n
  | 0, h => by omega
  | n + 1, h => by
    by_cases q : n = k + 1
    · subst q
      simp only [sm]
      have e : sm (fun t => G (swN z k t)) k = sm (fun t => G (z t)) k := sm_congr k (fun t ht => by unfold swN; rw [if_neg (by omega), if_neg (by omega)])
      have e1 : swN z k k = z (k + 1) := by unfold swN; rw [if_pos rfl]
      have e2 : swN z k (k + 1) = z k := by unfold swN; rw [if_neg (by omega), if_pos rfl]
      rw [e, e1, e2]; omega
    · simp only [sm]
      rw [swN_sum G z k n (by omega)]
      have e : swN z k n = z n := by unfold swN; rw [if_neg (by omega), if_neg (by omega)]
      rw [e]
theorem mvN_sum (G : Nat → Nat) (z : Nat → Nat) {i n : Nat} (hi : i < n) : ∀ a k, k + a = i → sm (fun t => G (mvN z k i t)) n = sm (fun t => G (z t)) n
  | 0, k, h => by
    obtain rfl : k = i := by omega
    exact sm_congr n (fun t _ => by rw [mvN_self])
  | a + 1, k, h => by
    rw [← mvN_sum G z hi a (k + 1) (by omega), ← swN_sum G (mvN z (k + 1) i) k n (by omega)]
    exact sm_congr n (fun t _ => by rw [mvN_step z (by omega)])
/-- numbers fall -/
def Fall (z : Nat → Nat) (n : Nat) : Prop := ∀ i j, i ≤ j → j < n → z j ≤ z i
theorem mvN_fall {z : Nat → Nat} {k i : Nat} (hz : Fall z i) (hk : k ≤ i) (h1 : ∀ t, k ≤ t → t < i → z t < z i) (h2 : k = 0 ∨ ¬ z (k - 1) < z i) : Fall (mvN z k i) (i + 1) := by
  intro a b hab hb
  unfold mvN
  by_cases ha : a = k
  · rw [if_pos ha]
    by_cases hb1 : b = k
    · rw [if_pos hb1]; exact Nat.le_refl _
    · rw [if_neg hb1, if_pos (by omega)]
      exact Nat.le_of_lt (h1 _ (by omega) (by omega))
  · rw [if_neg ha]
    by_cases ha2 : k < a ∧ a ≤ i
    · rw [if_pos ha2, if_neg (by omega), if_pos (by omega)]
      exact hz _ _ (by omega) (by omega)
    · rw [if_neg ha2]
      by_cases hb1 : b = k
      · rw [if_pos hb1]
        have := hz a (k - 1) (by omega) (by omega)
        omega
      · rw [if_neg hb1]
        by_cases hb2 : k < b ∧ b ≤ i
        · rw [if_pos hb2]; exact hz _ _ (by omega) (by omega)
        · rw [if_neg hb2]; exact hz _ _ hab (by omega)
/-- so many are no less than x -/
def cg (z : Nat → Nat) (x n : Nat) : Nat := sm (fun t => if x ≤ z t then 1 else 0) n
theorem fall_cg {z : Nat → Nat} (x : Nat) : ∀ n, Fall z n → cg z x n ≤ n ∧ ∀ t, t < n → (x ≤ z t ↔ t < cg z x n)
  | 0, _ => ⟨Nat.le_refl _, fun t ht => by omega⟩
  | n + 1, h => by
    obtain ⟨h0, h1⟩ := fall_cg x n (fun i j g1 g2 => h i j g1 (by omega))
    have hc : cg z x (n + 1) = cg z x n + if x ≤ z n then 1 else 0 := rfl
    by_cases q : x ≤ z n
    · -- then all are
      have hall : cg z x n = n := by
        apply Nat.le_antisymm h0
        apply Nat.le_of_not_lt
        intro g
        have := (h1 (cg z x n) g).1 (Nat.le_trans q (h _ n (by omega) (by omega)))
        omega
      rw [hc, if_pos q, hall]
      refine ⟨Nat.le_refl _, fun t ht => ⟨fun _ => ht, fun _ => Nat.le_trans q (h t n (by omega) (by omega))⟩⟩
    · rw [hc, if_neg q]
      refine ⟨by omega, fun t ht => ?_⟩
      by_cases e : t = n
      · subst e
        exact ⟨fun g => absurd g q, fun g => by omega⟩
      · exact h1 t (by omega)
/-- two falling rows of the same numbers are one -/
theorem fall_one {z w : Nat → Nat} {n : Nat} (hz : Fall z n) (hw : Fall w n) (h : ∀ x, cg z x n = cg w x n) : ∀ t, t < n → z t = w t := by
  intro t ht
  have a1 := (fall_cg (z t) n hz).2 t ht
  have a2 := (fall_cg (z t) n hw).2 t ht
  have b1 := (fall_cg (w t) n hz).2 t ht
  have b2 := (fall_cg (w t) n hw).2 t ht
  rw [h] at a1 b1
  have c1 : z t ≤ w t := a2.2 (a1.1 (Nat.le_refl _))
  have c2 : w t ≤ z t := b1.2 (b2.1 (Nat.le_refl _))
  omega
end Go.Proofs.Yteicamfelamfhaa.M
