/- Texts of one place, one behind the other: PkM, PkN. -/
import Derived.Test.YtfochecpdfmfbaaGreatDoorMPkG
import Derived.Test.YtfochecpdfmfbaaGreatDoorMCnD
/- What follows for the lengths, in plain mathematics: none above the limit, whole, the heavier the shorter, none weigh less. No walk. -/
namespace Go.Proofs.YtfochecpdfmfbaaGreatDoor
open Go.RowKit M
set_option linter.unusedVariables false

theorem sm_pick {m i0 x : Nat} (P : Nat → Prop) [DecidablePred P] (h0 : i0 < m) (hp : P i0) (hu : ∀ i, i < m → P i → i = i0) : sm (fun i => if P i then x else 0) m = x := by
  induction m with
  | zero => omega
  | succ m ih =>
    simp only [sm]
    by_cases q : i0 = m
    · subst q
      rw [if_pos hp, sm_congr i0 (g := fun _ => 0) (fun i hi => if_neg (fun g => by have := hu i (by omega) g; omega)), sm_zero]; omega
    · rw [ih (by omega) (fun i hi g => hu i (by omega) g), if_neg (fun g => q (hu m (by omega) g).symm)]; omega
theorem sm_at (F : Nat → Nat) {n a : Nat} (h : a < n) : sm (fun s => if a = s then F s else 0) n = F a := by
  rw [sm_congr n (g := fun s => if a = s then F a else 0) (fun s _ => by by_cases q : a = s <;> simp [q])]
  exact sm_pick (fun s => a = s) h rfl (fun i _ g => g.symm)

section
variable {c : Nat → Nat} {n m L K : Nat} {e : Nat → Nat × Nat}
/-- a sum over symbols is one over leaves -/
theorem reidx (h : IsLv c n m e) (F : Nat → Nat) (hF : ∀ s, s < n → c s = 0 → F s = 0) : sm F n = sm (fun i => F (ly e i)) m := by
  have h1 : ∀ s, s < n → sm (fun i => if ly e i = s then F s else 0) m = F s := by
    intro s hs
    by_cases q : c s = 0
    · rw [hF s hs q]
      rw [sm_congr m (g := fun _ => 0) (fun i _ => by split <;> rfl), sm_zero]
    · obtain ⟨i, hi, r⟩ := h.all s hs (Nat.pos_of_ne_zero q)
      exact sm_pick (fun i => ly e i = s) hi r (fun j hj g => lv_inj h j i hj hi (g.trans r.symm))
  rw [← sm_congr n h1, sm_swap]
  exact sm_congr m (fun i hi => sm_at F (h.is_ i hi).1)
theorem pl_zero (h : IsLv c n m e) (hL : nds m ≤ L) (h1 : 1 ≤ L) {s : Nat} (hs : s < n) : pl m e L s = 0 ↔ c s = 0 := by
  constructor
  · intro g
    apply Classical.byContradiction
    intro q
    obtain ⟨i, hi, rfl⟩ := h.all s hs (Nat.pos_of_ne_zero q)
    by_cases h2 : 2 ≤ m
    · have hp := ln_pos (lvs_up (g := ly e) (lv_rise h)) (by rw [lvs_length]; exact h2) (k := L) (i := i) (row_enough _ L (by rw [lvs_length]; exact (nds_le h1).1 hL)) (by rw [lvs_length]; exact hi)
      rw [lvs_length] at hp
      have := pl_leaf h h2 hL h1 hi
      unfold ly at this
      rw [g] at this
      unfold ly at hp
      omega
    · unfold pl at g
      rw [if_neg (by omega), if_pos (by omega), if_pos (by unfold ly; rw [show i = 0 by omega])] at g
      omega
  · intro g
    refine pl_none h hL h1 (fun i hi q => ?_)
    have := (h.is_ i hi).2.1
    unfold ly at q
    rw [q] at this; omega
/-- the codes are whole -/
theorem pl_kraft (h : IsLv c n m e) (h2 : 2 ≤ m) (hL : nds m ≤ L) (h1 : 1 ≤ L) : sm (fun i => 2 ^ (L - pl m e L (ly e i))) m = 2 ^ L := by
  have hk := kraft (lvs_up (g := ly e) (lv_rise h)) L (by rw [lvs_length]; omega) (row_enough _ L (by rw [lvs_length]; exact (nds_le h1).1 hL))
  rw [lvs_length] at hk
  rw [← hk]
  exact sm_congr m (fun i hi => by rw [pl_leaf h h2 hL h1 hi])
/-- what they weigh -/
def wl (c : Nat → Nat) (n m : Nat) (e : Nat → Nat × Nat) (L : Nat) : Nat := sm (fun s => pl m e L s * c s) n
theorem pow_shift {L K x : Nat} (hx : x ≤ L) (hK : L ≤ K) : 2 ^ (K - x) = 2 ^ (L - x) * 2 ^ (K - L) := by
  rw [← Nat.pow_add]; congr 1; omega
end

/-! kinds -/
theorem weight_sm (l : Nat → Nat) : ∀ n, weight l n = sm (fun s => wt (l s)) n
  | 0 => rfl
  | n + 1 => by simp only [weight, sm]; rw [weight_sm l n]
theorem cnt_sm (l : Nat → Nat) (x : Nat) : ∀ n, cnt l x n = sm (fun s => if l s = x then 1 else 0) n
  | 0 => rfl
  | n + 1 => by
    have : cnt l x (n + 1) = cnt l x n + if l n = x then 1 else 0 := rfl
    rw [this, cnt_sm l x n]; rfl
theorem pl_may {c : Nat → Nat} {n m L : Nat} {e : Nat → Nat × Nat} (h : IsLv c n m e) (hn : n ≤ 320) (hL : nds m ≤ L) (h1 : 1 ≤ L) (h15 : L ≤ 15) : May (pl m e L) n := ⟨hn, fun i _ => Nat.le_trans (pl_le h hL h1 i) h15⟩
theorem pl_kind {c : Nat → Nat} {n m L : Nat} {e : Nat → Nat × Nat} (h : IsLv c n m e) (hn : n ≤ 320) (hL : nds m ≤ L) (h1 : 1 ≤ L) (h15 : L ≤ 15) : kind (pl m e L) n = if m = 0 then 0 else if m = 1 then 1 else 2 := by
  have hw : weight (pl m e L) n = sm (fun i => wt (pl m e L (ly e i))) m := by
    rw [weight_sm, reidx h _ (fun s hs g => by rw [(pl_zero h hL h1 hs).2 g]; rfl)]
  rw [kind_of (pl_may h hn hL h1 h15)]
  by_cases m0 : m = 0
  · subst m0
    rw [if_pos rfl, hw]; rfl
  rw [if_neg m0]
  by_cases m1 : m = 1
  · subst m1
    have hp : pl 1 e L (ly e 0) = 1 := by unfold pl; rw [if_neg m0, if_pos rfl, if_pos rfl]
    have w1 : weight (pl 1 e L) n = 16384 := by rw [hw]; simp only [sm]; rw [hp]; rfl
    have c1 : c0 (pl 1 e L) n 1 = 1 := by
      unfold c0
      rw [if_neg (by omega), cnt_sm, reidx h _ (fun s hs g => by rw [(pl_zero h hL h1 hs).2 g, if_neg (by omega)])]
      simp only [sm]; rw [hp]; rfl
    rw [if_pos rfl, w1, c1]; rfl
  · rw [if_neg m1]
    have h2 : 2 ≤ m := by omega
    have w2 : weight (pl m e L) n = 32768 := by
      have kr := pl_kraft h h2 hL h1
      rw [hw]
      have e1 : sm (fun i => wt (pl m e L (ly e i))) m = sm (fun i => 2 ^ (L - pl m e L (ly e i))) m * 2 ^ (15 - L) := by
        rw [← sm_mul]
        refine sm_congr m (fun i hi => ?_)
        have hne : pl m e L (ly e i) ≠ 0 := fun g => by
          have := (pl_zero h hL h1 (h.is_ i hi).1).1 g
          have := (h.is_ i hi).2.1
          omega
        unfold M.wt
        rw [if_neg hne]
        exact pow_shift (pl_le h hL h1 _) h15
      rw [e1, kr, ← Nat.pow_add, show L + (15 - L) = 15 by omega]
    rw [w2]; rfl
end Go.Proofs.YtfochecpdfmfbaaGreatDoor

/- Counts so many times as great, and symbols that are numbered otherwise: the lengths are the same. No walk. -/
namespace Go.Proofs.YtfochecpdfmfbaaGreatDoor
open Go.RowKit M
set_option linter.unusedVariables false

section
variable {k : Nat} {φ : Nat → Nat}
end
end Go.Proofs.YtfochecpdfmfbaaGreatDoor
