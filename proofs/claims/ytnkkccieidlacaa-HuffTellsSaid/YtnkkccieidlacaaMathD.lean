/- The plain mathematics of layer 1, on: multiples of multiples; masks that grow. No program. -/
import Derived.Test.YtnkkccieidlacaaMathC
namespace Go.Proofs.Ytnkkccieidlacaa.M
open Go
set_option linter.unusedVariables false

/-- multiples of t that are near are the same -/
theorem near_mul (t p q : Int) (ht : 1 ≤ t) (h : p * t < q * t + t) : p ≤ q := by
  apply Int.le_of_not_gt
  intro g
  have := Int.mul_le_mul_of_nonneg_right (show q + 1 ≤ p by omega) (show 0 ≤ t by omega)
  rw [Int.add_mul, Int.one_mul] at this
  omega
theorem up_uniq (n t q : Int) (h1 : 1 ≤ n) (h2 : 1 ≤ t) (h3 : n - 1 + t ≤ 4611686018427387904) (g1 : n ≤ q * t) (g2 : q * t < n + t) : up n t = q * t := by
  have f1 := up_mul_lt n t h1 h2
  have f2 := up_mul_ge n t h1 h2
  rw [up_pos n t h1 h2 h3]
  have e1 := near_mul t ((n - 1) / t + 1) q h2 (by omega)
  have e2 := near_mul t q ((n - 1) / t + 1) h2 (by omega)
  rw [show (n - 1) / t + 1 = q by omega]
theorem up_form (n t : Int) (h1 : 1 ≤ n) (h2 : 1 ≤ t) (h3 : n - 1 + t ≤ 4611686018427387904) : ∃ q, up n t = q * t ∧ n ≤ q * t ∧ q * t < n + t := by
  have f1 := up_mul_lt n t h1 h2
  have f2 := up_mul_ge n t h1 h2
  exact ⟨_, up_pos n t h1 h2 h3, f2, by omega⟩
theorem up_again (u a b : Int) (hu : 1 ≤ u ∧ u ≤ 65536) (ha : 1 ≤ a ∧ a ≤ 65536) (hb : 1 ≤ b ∧ b ≤ 65536) :
    up (up u a) a = up u a ∧ up u a ≤ up u (a * b) ∧ up (up u a) (a * b) = up u (a * b) ∧ 1 ≤ up u a := by
  have hab1 : 1 * 1 ≤ a * b := Int.mul_le_mul ha.1 hb.1 (by omega) (by omega)
  have hab2 : a * b ≤ 65536 * 65536 := Int.mul_le_mul ha.2 hb.2 (by omega) (by omega)
  obtain ⟨p, e1, e2, e3⟩ := up_form u a hu.1 ha.1 (by omega)
  obtain ⟨q, f1, f2, f3⟩ := up_form u (a * b) hu.1 (by omega) (by omega)
  rw [e1, f1]
  have g1 : up (p * a) a = p * a := up_uniq _ _ _ (by omega) ha.1 (by omega) (by omega) (by omega)
  have e4 : q * (a * b) = q * b * a := by rw [Int.mul_comm a b, Int.mul_assoc]
  have g2 : p ≤ q * b := near_mul a p (q * b) ha.1 (by rw [← e4]; omega)
  have g3 : p * a ≤ q * (a * b) := by
    rw [e4]
    exact Int.mul_le_mul_of_nonneg_right g2 (by omega)
  exact ⟨g1, g3, up_uniq _ _ _ (by omega) (by omega) (by omega) g3 (by omega), by omega⟩

/-- masks grow bit by bit -/
theorem mask_grow (K : Nat) (h : K < 64) : bits .or .u64 (IntKind.u64.wrap ((mk K : Int) * 2)) 1 = (mk (K + 1) : Int) := by
  have h1 := mk_lt K
  have h2 := pow_lt64 h
  have e1 : IntKind.u64.wrap ((mk K : Int) * 2) = ((2 * mk K : Nat) : Int) := by
    rw [show ((mk K : Int) * 2) = ((2 * mk K : Nat) : Int) by omega]
    exact wrap_nat_lt _ (by omega)
  have e2 := bits_or_u64_nat (2 * mk K) 1 (by omega) (by decide)
  rw [or_bit _ _ (by omega), ← mk_succ] at e2
  rw [e1]
  exact e2
theorem mask_less (K : Nat) (h : K < 64) : bits .andNot .u64 (mk K : Int) (mk (K + 1) : Int) = 0 := by
  have h1 := mk_lt K
  exact andNot_mask (mk K) (K + 1) (by rw [Nat.pow_succ]; omega) (by omega)

theorem lg_mono (n m : Nat) (h : n ≤ m) : lg n ≤ lg m := by
  by_cases hn : n = 0
  · subst hn; have := lg_ge m; rw [lg_zero]; exact this
  · have hm : m ≠ 0 := by omega
    rw [lg_nat n hn, lg_nat m hm]
    have h1 : 2 ^ n.log2 ≤ n := Nat.log2_self_le hn
    have h2 : n.log2 ≤ m.log2 := (Nat.le_log2 hm).2 (by omega)
    omega
theorem and63 (G : Nat) (h : G < 64) : bits .and .i64 (G : Int) 63 = (G : Int) := by
  have e := bits_mask .i64 63 (by decide) (fun n h1 h2 => by rw [IntKind.wrap_i64]; omega) 6 (by decide) (G : Int) (by omega) (by omega)
  have e' : bits .and .i64 (G : Int) 63 = (G : Int) % 64 := e
  rw [e']
  omega

end Go.Proofs.Ytnkkccieidlacaa.M
