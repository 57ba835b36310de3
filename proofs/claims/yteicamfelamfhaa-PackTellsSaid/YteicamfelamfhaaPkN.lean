/- Counts so many times as great, and symbols that are numbered otherwise: the lengths are the same. No walk. -/
import Derived.Test.YteicamfelamfhaaPkM
namespace Go.Proofs.Yteicamfelamfhaa
open Go.RowKit M
set_option linter.unusedVariables false

/-- a thing whose leaves weigh k times as much and have other symbols -/
def tm (k : Nat) (φ : Nat → Nat) : Th → Th
  | .lf w s => .lf (k * w) (φ s)
  | .pk a b => .pk (tm k φ a) (tm k φ b)
section
variable {k : Nat} {φ : Nat → Nat}
theorem tm_wt : ∀ t : Th, (tm k φ t).wt = k * t.wt
  | .lf w s => rfl
  | .pk a b => by simp only [tm, Th.wt]; rw [tm_wt a, tm_wt b, Nat.mul_add]
theorem tm_cn (hφ : ∀ a b, φ a = φ b → a = b) (x : Nat) : ∀ t : Th, (tm k φ t).cn (φ x) = t.cn x
  | .lf w s => by
    simp only [tm, Th.cn]
    by_cases q : s = x
    · rw [if_pos q, if_pos (by rw [q])]
    · rw [if_neg q, if_neg (fun g => q (hφ _ _ g))]
  | .pk a b => by simp only [tm, Th.cn]; rw [tm_cn hφ x a, tm_cn hφ x b]
theorem tm_ct (hφ : ∀ a b, φ a = φ b → a = b) (x : Nat) : ∀ l : List Th, ct (φ x) (l.map (tm k φ)) = ct x l
  | [] => rfl
  | t :: l => by simp only [List.map_cons, ct]; rw [tm_cn hφ x t, tm_ct hφ x l]
theorem tm_pks : ∀ R : List Th, pks (R.map (tm k φ)) = (pks R).map (tm k φ)
  | [] => rfl
  | [a] => rfl
  | a :: b :: r => by simp only [List.map_cons, pks]; rw [tm_pks r]; rfl
theorem tm_mrg (hk : 1 ≤ k) : ∀ (L P : List Th), mrg (L.map (tm k φ)) (P.map (tm k φ)) = (mrg L P).map (tm k φ)
  | [], P => by rw [List.map_nil, mrg_nil, mrg_nil]
  | l :: L, [] => by rw [List.map_nil, mrg_nil', mrg_nil']
  | l :: L, p :: P => by
    rw [mrg_cons, List.map_cons, List.map_cons, mrg_cons, tm_wt, tm_wt]
    have hc : k * p.wt < k * l.wt ↔ p.wt < l.wt := Nat.mul_lt_mul_left (by omega)
    by_cases h : p.wt < l.wt
    · rw [if_pos (hc.2 h), if_pos h, List.map_cons, ← tm_mrg hk (l :: L) P, List.map_cons]
    · rw [if_neg (fun g => h (hc.1 g)), if_neg h, List.map_cons, ← tm_mrg hk L (p :: P), List.map_cons]
termination_by L P => L.length + P.length
theorem tm_row (hk : 1 ≤ k) (L : List Th) : ∀ j, row (L.map (tm k φ)) j = (row L j).map (tm k φ)
  | 0 => rfl
  | j + 1 => by
    show mrg _ (pks (row _ j)) = _
    rw [tm_row hk L j, tm_pks, tm_mrg hk]; rfl
/-- leaves that weigh k times as much and have other symbols -/
def te (k : Nat) (φ : Nat → Nat) (e : Nat → Nat × Nat) (i : Nat) : Nat × Nat := (k * (e i).1, φ (e i).2)
theorem tm_pl (hk : 1 ≤ k) (hφ : ∀ a b, φ a = φ b → a = b) (m : Nat) (e : Nat → Nat × Nat) (L s : Nat) : pl m (te k φ e) L (φ s) = pl m e L s := by
  unfold pl
  by_cases h0 : m = 0
  · rw [if_pos h0, if_pos h0]
  rw [if_neg h0, if_neg h0]
  by_cases h1 : m = 1
  · rw [if_pos h1, if_pos h1]
    show (if φ s = φ (e 0).2 then 1 else 0) = (if s = (e 0).2 then 1 else 0)
    by_cases q : s = (e 0).2
    · rw [if_pos q, if_pos (by rw [q])]
    · rw [if_neg q, if_neg (fun g => q (hφ _ _ g))]
  rw [if_neg h1, if_neg h1]
  have hl : lvs (lw (te k φ e)) (ly (te k φ e)) m = (lvs (lw e) (ly e) m).map (tm k φ) := by
    unfold lvs
    rw [List.map_map]; rfl
  rw [hl, tm_row hk, ← List.map_take, tm_ct hφ]
end
theorem lv_times {c : Nat → Nat} {n m k : Nat} {e : Nat → Nat × Nat} (hk : 1 ≤ k) (h : IsLv c n m e) : IsLv (fun s => k * c s) n m (te k id e) := by
  refine ⟨fun i j h1 h2 h3 => ?_, fun i hi => ?_, fun s hs hc => ?_, h.le⟩
  · have := h.ord i j h1 h2 h3
    show k * (e i).1 < k * (e j).1 ∨ (k * (e i).1 = k * (e j).1 ∧ (e i).2 < (e j).2)
    rcases this with g | ⟨g1, g2⟩
    · exact .inl ((Nat.mul_lt_mul_left (by omega)).2 g)
    · exact .inr ⟨by rw [g1], g2⟩
  · obtain ⟨g1, g2, g3⟩ := h.is_ i hi
    exact ⟨g1, Nat.mul_pos (by omega) g2, by show k * (e i).1 = k * c (e i).2; rw [g3]⟩
  · have h0 : 0 < c s := by
      apply Nat.pos_of_ne_zero
      intro g
      have : 0 < k * c s := hc
      rw [g, Nat.mul_zero] at this; omega
    exact h.all s hs h0
theorem pl_times {k : Nat} (hk : 1 ≤ k) (m : Nat) (e : Nat → Nat × Nat) (L s : Nat) : pl m (te k id e) L s = pl m e L s := tm_pl (φ := id) hk (fun _ _ g => g) m e L s
/-- a symbol that does not count, put at k -/
def put0 (c : Nat → Nat) (k s : Nat) : Nat := if s < k then c s else if s = k then 0 else c (s - 1)
def ups (k s : Nat) : Nat := if s < k then s else s + 1
theorem ups_inj (k : Nat) : ∀ a b, ups k a = ups k b → a = b := by
  intro a b h
  unfold ups at h
  split at h <;> split at h <;> omega
theorem put0_ups (c : Nat → Nat) (k s : Nat) : put0 c k (ups k s) = c s := by
  unfold put0 ups
  by_cases h : s < k
  · rw [if_pos h, if_pos h]
  · rw [if_neg h, if_neg (by omega), if_neg (by omega), Nat.add_sub_cancel]
theorem lv_put {c : Nat → Nat} {n m k : Nat} {e : Nat → Nat × Nat} (hk : k ≤ n) (h : IsLv c n m e) : IsLv (put0 c k) (n + 1) m (te 1 (ups k) e) := by
  refine ⟨fun i j h1 h2 h3 => ?_, fun i hi => ?_, fun s hs hc => ?_, by have := h.le; omega⟩
  · have := h.ord i j h1 h2 h3
    show 1 * (e i).1 < 1 * (e j).1 ∨ (1 * (e i).1 = 1 * (e j).1 ∧ ups k (e i).2 < ups k (e j).2)
    rcases this with g | ⟨g1, g2⟩
    · exact .inl (by omega)
    · refine .inr ⟨by omega, ?_⟩
      unfold ups; split <;> split <;> omega
  · obtain ⟨g1, g2, g3⟩ := h.is_ i hi
    show ups k (e i).2 < n + 1 ∧ 0 < put0 c k (ups k (e i).2) ∧ 1 * (e i).1 = put0 c k (ups k (e i).2)
    rw [put0_ups]
    refine ⟨?_, g2, by omega⟩
    unfold ups; split <;> omega
  · by_cases q : s < k
    · have hc' : 0 < c s := by unfold put0 at hc; rwa [if_pos q] at hc
      obtain ⟨i, hi, r⟩ := h.all s (by omega) hc'
      exact ⟨i, hi, by show ups k (e i).2 = s; rw [r]; unfold ups; rw [if_pos q]⟩
    · by_cases q2 : s = k
      · unfold put0 at hc; rw [if_neg q, if_pos q2] at hc; omega
      · have hc' : 0 < c (s - 1) := by unfold put0 at hc; rwa [if_neg q, if_neg q2] at hc
        obtain ⟨i, hi, r⟩ := h.all (s - 1) (by omega) hc'
        exact ⟨i, hi, by show ups k (e i).2 = s; rw [r]; unfold ups; rw [if_neg (by omega)]; omega⟩
theorem pl_put (k m : Nat) (e : Nat → Nat × Nat) (L s : Nat) : pl m (te 1 (ups k) e) L (ups k s) = pl m e L s := tm_pl (Nat.le_refl _) (ups_inj k) m e L s
theorem pl_put0 {c : Nat → Nat} {n m L k : Nat} {e : Nat → Nat × Nat} (hk : k ≤ n) (h : IsLv c n m e) (hL : nds m ≤ L) (h1 : 1 ≤ L) : pl m (te 1 (ups k) e) L k = 0 :=
  pl_none (lv_put hk h) hL h1 (fun i hi g => by
    have : ups k (e i).2 = k := g
    unfold ups at this; split at this <;> omega)
end Go.Proofs.Yteicamfelamfhaa
