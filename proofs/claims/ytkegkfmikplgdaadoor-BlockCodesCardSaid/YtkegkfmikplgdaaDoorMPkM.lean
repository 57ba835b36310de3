/- Texts of one place, one behind the other: PkM, PkN. -/
import Derived.Test.YtkegkfmikplgdaaDoorMPkG
import Derived.Test.YtkegkfmikplgdaaDoorMCnD
/- What follows for the lengths, in plain mathematics: none above the limit, whole, the heavier the shorter, none weigh less. No walk. -/
namespace Go.Proofs.YtkegkfmikplgdaaDoor
open Go.RowKit M
set_option linter.unusedVariables false

theorem sm_pick {m i0 x : Nat} (P : Nat → Prop) [DecidablePred P] (h0 : i0 < m) (hp : P i0) (hu : ∀ i, i < m → P i → i = i0) : sm (fun i => if P i then x else 0) m = x := by
  induction m with
  | zero => omega
  | succ m ih =>
    simp only [sm]
    by_cases q : i0 = m
    · subst q
      rw [if_pos hp, sm_congr i0 (g := fun _ => 0) (fun i hi => if_neg (fun g => by have := hu i (by omega) g; omega)), sm_zero]; omega
    · rw [ih (by omega) (fun i hi g => hu i (by omega) g), if_neg (fun g => q (hu m (by omega) g).symm)]; omega
theorem sm_at (F : Nat → Nat) {n a : Nat} (h : a < n) : sm (fun s => if a = s then F s else 0) n = F a := by
  rw [sm_congr n (g := fun s => if a = s then F a else 0) (fun s _ => by by_cases q : a = s <;> simp [q])]
  exact sm_pick (fun s => a = s) h rfl (fun i _ g => g.symm)

section
variable {c : Nat → Nat} {n m L K : Nat} {e : Nat → Nat × Nat}
/-- a sum over symbols is one over leaves -/
theorem reidx (h : IsLv c n m e) (F : Nat → Nat) (hF : ∀ s, s < n → c s = 0 → F s = 0) : sm F n = sm (fun i => F (ly e i)) m := by
  have h1 : ∀ s, s < n → sm (fun i => if ly e i = s then F s else 0) m = F s := by
    intro s hs
    by_cases q : c s = 0
    · rw [hF s hs q]
      rw [sm_congr m (g := fun _ => 0) (fun i _ => by split <;> rfl), sm_zero]
    · obtain ⟨i, hi, r⟩ := h.all s hs (Nat.pos_of_ne_zero q)
      exact sm_pick (fun i => ly e i = s) hi r (fun j hj g => lv_inj h j i hj hi (g.trans r.symm))
  rw [← sm_congr n h1, sm_swap]
  exact sm_congr m (fun i hi => sm_at F (h.is_ i hi).1)
theorem pl_zero (h : IsLv c n m e) (hL : nds m ≤ L) (h1 : 1 ≤ L) {s : Nat} (hs : s < n) : pl m e L s = 0 ↔ c s = 0 := by
  constructor
  · intro g
    apply Classical.byContradiction
    intro q
    obtain ⟨i, hi, rfl⟩ := h.all s hs (Nat.pos_of_ne_zero q)
    by_cases h2 : 2 ≤ m
    · have hp := ln_pos (lvs_up (g := ly e) (lv_rise h)) (by rw [lvs_length]; exact h2) (k := L) (i := i) (row_enough _ L (by rw [lvs_length]; exact (nds_le h1).1 hL)) (by rw [lvs_length]; exact hi)
      rw [lvs_length] at hp
      have := pl_leaf h h2 hL h1 hi
      unfold ly at this
      rw [g] at this
      unfold ly at hp
      omega
    · unfold pl at g
      rw [if_neg (by omega), if_pos (by omega), if_pos (by unfold ly; rw [show i = 0 by omega])] at g
      omega
  · intro g
    refine pl_none h hL h1 (fun i hi q => ?_)
    have := (h.is_ i hi).2.1
    unfold ly at q
    rw [q] at this; omega
/-- who counts more has no longer code -/
theorem pl_heavy (h : IsLv c n m e) (hL : nds m ≤ L) (h1 : 1 ≤ L) {s t : Nat} (hs : s < n) (ht : t < n) (hc : c t < c s) (h0 : 0 < c t) : pl m e L s ≤ pl m e L t := by
  obtain ⟨i, hi, q⟩ := h.all s hs (by omega)
  obtain ⟨j, hj, r⟩ := h.all t ht h0
  have hij : j < i := by
    apply Nat.lt_of_not_le
    intro g
    rcases h.ord.le (Nat.zero_le _) g hj with p | p
    · have := congrArg Prod.snd p; rw [q, r] at this; subst this; omega
    · have a1 := (h.is_ i hi).2.2
      have a2 := (h.is_ j hj).2.2
      rw [q] at a1
      rw [r] at a2
      unfold lx at p; omega
  have h2 : 2 ≤ m := by omega
  have e1 := pl_leaf h h2 hL h1 hi
  have e2 := pl_leaf h h2 hL h1 hj
  unfold ly at e1 e2
  rw [q] at e1
  rw [r] at e2
  rw [e1, e2]
  exact ln_anti _ (by omega) _ _
/-- the codes are whole -/
theorem pl_kraft (h : IsLv c n m e) (h2 : 2 ≤ m) (hL : nds m ≤ L) (h1 : 1 ≤ L) : sm (fun i => 2 ^ (L - pl m e L (ly e i))) m = 2 ^ L := by
  have hk := kraft (lvs_up (g := ly e) (lv_rise h)) L (by rw [lvs_length]; omega) (row_enough _ L (by rw [lvs_length]; exact (nds_le h1).1 hL))
  rw [lvs_length] at hk
  rw [← hk]
  exact sm_congr m (fun i hi => by rw [pl_leaf h h2 hL h1 hi])
/-- what they weigh -/
def wl (c : Nat → Nat) (n m : Nat) (e : Nat → Nat × Nat) (L : Nat) : Nat := sm (fun s => pl m e L s * c s) n
theorem wl_leaves (h : IsLv c n m e) : wl c n m e L = sm (fun i => pl m e L (ly e i) * lw e i) m := by
  unfold wl
  rw [reidx h _ (fun s _ g => by rw [g, Nat.mul_zero])]
  refine sm_congr m (fun i hi => ?_)
  unfold lw ly
  rw [(h.is_ i hi).2.2]
/-- no other lengths within the limit that have room weigh less -/
theorem wl_best (h : IsLv c n m e) (h2 : 2 ≤ m) (hL : nds m ≤ L) (h1 : 1 ≤ L) (l : Nat → Nat) (hl : ∀ i, i < m → l i ≤ L) (hs : sm (fun i => 2 ^ (L - l i)) m ≤ 2 ^ L) : wl c n m e L ≤ sm (fun i => l i * lw e i) m := by
  obtain ⟨b1, b2⟩ := best (g := ly e) (lv_rise h) (by omega) L l hl hs
  rw [wl_leaves h]
  rw [ws_row L _ b1] at b2
  refine Nat.le_trans (Nat.le_of_eq (sm_congr m (fun i hi => ?_))) b2
  rw [pl_leaf h h2 hL h1 hi]
theorem pow_shift {L K x : Nat} (hx : x ≤ L) (hK : L ≤ K) : 2 ^ (K - x) = 2 ^ (L - x) * 2 ^ (K - L) := by
  rw [← Nat.pow_add]; congr 1; omega
/-- lengths that keep to another limit as well -/
theorem wl_other (h : IsLv c n m e) (h2 : 2 ≤ m) (hL : nds m ≤ L) (h1 : 1 ≤ L) (hK : nds m ≤ K) (h3 : 1 ≤ K) (hk : ∀ i, i < m → pl m e K (ly e i) ≤ L) : wl c n m e L ≤ wl c n m e K := by
  rw [wl_leaves h (L := K)]
  refine wl_best h h2 hL h1 _ hk ?_
  have kr := pl_kraft h h2 hK h3
  rcases Nat.le_total L K with g | g
  · have e1 : sm (fun i => 2 ^ (K - pl m e K (ly e i))) m = sm (fun i => 2 ^ (L - pl m e K (ly e i))) m * 2 ^ (K - L) := by
      rw [← sm_mul]
      exact sm_congr m (fun i hi => pow_shift (hk i hi) g)
    have e2 : 2 ^ K = 2 ^ L * 2 ^ (K - L) := by rw [← Nat.pow_add]; congr 1; omega
    rw [e1, e2] at kr
    exact Nat.le_of_eq (Nat.eq_of_mul_eq_mul_right (Nat.two_pow_pos _) kr)
  · have e1 : sm (fun i => 2 ^ (L - pl m e K (ly e i))) m = sm (fun i => 2 ^ (K - pl m e K (ly e i))) m * 2 ^ (L - K) := by
      rw [← sm_mul]
      exact sm_congr m (fun i hi => pow_shift (pl_le h hK h3 _) g)
    have e2 : 2 ^ L = 2 ^ K * 2 ^ (L - K) := by rw [← Nat.pow_add]; congr 1; omega
    rw [e1, e2, kr]
    exact Nat.le_refl _
theorem pl_few (hm : m ≤ 1) (s : Nat) : pl m e L s = pl m e K s := by
  unfold pl
  by_cases h0 : m = 0
  · rw [if_pos h0, if_pos h0]
  · have h1 : m = 1 := by omega
    rw [if_neg h0, if_neg h0, if_pos h1, if_pos h1]
/-- a greater limit never makes it weigh more -/
theorem wl_more (h : IsLv c n m e) (hL : nds m ≤ L) (h1 : 1 ≤ L) (hK : L ≤ K) : wl c n m e K ≤ wl c n m e L := by
  by_cases h2 : 2 ≤ m
  · exact wl_other h h2 (by omega) (by omega) hL h1 (fun i hi => Nat.le_trans (pl_le h hL h1 _) hK)
  · unfold wl
    exact Nat.le_of_eq (sm_congr n (fun s _ => by rw [pl_few (by omega)]))
/-- a limit that does not bind makes no difference -/
theorem wl_free (h : IsLv c n m e) (hL : nds m ≤ L) (h1 : 1 ≤ L) (hK : L ≤ K) (hk : ∀ s, s < n → pl m e K s ≤ L) : wl c n m e L = wl c n m e K := by
  apply Nat.le_antisymm
  · by_cases h2 : 2 ≤ m
    · exact wl_other h h2 hL h1 (by omega) (by omega) (fun i hi => hk _ (h.is_ i hi).1)
    · unfold wl
      exact Nat.le_of_eq (sm_congr n (fun s _ => by rw [pl_few (by omega)]))
  · exact wl_more h hL h1 hK
end

/-- what canon.Weigh answers -/
theorem wg_sm {l y : Nat → Nat} (hl : ∀ i, l i ≤ 255) (hy : ∀ i, y i ≤ 1073741824) : ∀ n, n ≤ 400 → wg l (fun i => (y i : Int)) n = ((sm (fun i => l i * y i) n : Nat) : Int) ∧ sm (fun i => l i * y i) n ≤ n * (255 * 1073741824)
  | 0, _ => ⟨rfl, by simp [sm]⟩
  | n + 1, h => by
    obtain ⟨h1, h2⟩ := wg_sm hl hy n (by omega)
    have h3 : l n * y n ≤ 255 * 1073741824 := Nat.mul_le_mul (hl n) (hy n)
    have e : (l n : Int) * (y n : Int) = ((l n * y n : Nat) : Int) := by push_cast; rfl
    simp only [wg, sm]
    refine ⟨?_, by rw [Nat.succ_mul]; omega⟩
    rw [h1, e]
    split
    · have e2 : wrap64 ((l n * y n : Nat) : Int) = ((l n * y n : Nat) : Int) := IntWalk.wrap64_in _ ⟨by omega, by omega⟩
      rw [e2, IntWalk.wrap64_in _ ⟨by omega, by omega⟩]; omega
    · have : y n = 0 := by omega
      rw [this]; simp

/-! kinds -/
theorem weight_sm (l : Nat → Nat) : ∀ n, weight l n = sm (fun s => wt (l s)) n
  | 0 => rfl
  | n + 1 => by simp only [weight, sm]; rw [weight_sm l n]
theorem cnt_sm (l : Nat → Nat) (x : Nat) : ∀ n, cnt l x n = sm (fun s => if l s = x then 1 else 0) n
  | 0 => rfl
  | n + 1 => by
    have : cnt l x (n + 1) = cnt l x n + if l n = x then 1 else 0 := rfl
    rw [this, cnt_sm l x n]; rfl
theorem pl_may {c : Nat → Nat} {n m L : Nat} {e : Nat → Nat × Nat} (h : IsLv c n m e) (hn : n ≤ 320) (hL : nds m ≤ L) (h1 : 1 ≤ L) (h15 : L ≤ 15) : May (pl m e L) n := ⟨hn, fun i _ => Nat.le_trans (pl_le h hL h1 i) h15⟩
theorem pl_kind {c : Nat → Nat} {n m L : Nat} {e : Nat → Nat × Nat} (h : IsLv c n m e) (hn : n ≤ 320) (hL : nds m ≤ L) (h1 : 1 ≤ L) (h15 : L ≤ 15) : kind (pl m e L) n = if m = 0 then 0 else if m = 1 then 1 else 2 := by
  have hw : weight (pl m e L) n = sm (fun i => wt (pl m e L (ly e i))) m := by
    rw [weight_sm, reidx h _ (fun s hs g => by rw [(pl_zero h hL h1 hs).2 g]; rfl)]
  rw [kind_of (pl_may h hn hL h1 h15)]
  by_cases m0 : m = 0
  · subst m0
    rw [if_pos rfl, hw]; rfl
  rw [if_neg m0]
  by_cases m1 : m = 1
  · subst m1
    have hp : pl 1 e L (ly e 0) = 1 := by unfold pl; rw [if_neg m0, if_pos rfl, if_pos rfl]
    have w1 : weight (pl 1 e L) n = 16384 := by rw [hw]; simp only [sm]; rw [hp]; rfl
    have c1 : c0 (pl 1 e L) n 1 = 1 := by
      unfold c0
      rw [if_neg (by omega), cnt_sm, reidx h _ (fun s hs g => by rw [(pl_zero h hL h1 hs).2 g, if_neg (by omega)])]
      simp only [sm]; rw [hp]; rfl
    rw [if_pos rfl, w1, c1]; rfl
  · rw [if_neg m1]
    have h2 : 2 ≤ m := by omega
    have w2 : weight (pl m e L) n = 32768 := by
      have kr := pl_kraft h h2 hL h1
      rw [hw]
      have e1 : sm (fun i => wt (pl m e L (ly e i))) m = sm (fun i => 2 ^ (L - pl m e L (ly e i))) m * 2 ^ (15 - L) := by
        rw [← sm_mul]
        refine sm_congr m (fun i hi => ?_)
        have hne : pl m e L (ly e i) ≠ 0 := fun g => by
          have := (pl_zero h hL h1 (h.is_ i hi).1).1 g
          have := (h.is_ i hi).2.1
          omega
        unfold M.wt
        rw [if_neg hne]
        exact pow_shift (pl_le h hL h1 _) h15
      rw [e1, kr, ← Nat.pow_add, show L + (15 - L) = 15 by omega]
    rw [w2]; rfl
end Go.Proofs.YtkegkfmikplgdaaDoor

/- Counts so many times as great, and symbols that are numbered otherwise: the lengths are the same. No walk. -/
namespace Go.Proofs.YtkegkfmikplgdaaDoor
open Go.RowKit M
set_option linter.unusedVariables false

/-- a thing whose leaves weigh k times as much and have other symbols -/
def tm (k : Nat) (φ : Nat → Nat) : Th → Th
  | .lf w s => .lf (k * w) (φ s)
  | .pk a b => .pk (tm k φ a) (tm k φ b)
section
variable {k : Nat} {φ : Nat → Nat}
theorem tm_wt : ∀ t : Th, (tm k φ t).wt = k * t.wt
  | .lf w s => rfl
  | .pk a b => by simp only [tm, Th.wt]; rw [tm_wt a, tm_wt b, Nat.mul_add]
theorem tm_cn (hφ : ∀ a b, φ a = φ b → a = b) (x : Nat) : ∀ t : Th, (tm k φ t).cn (φ x) = t.cn x
  | .lf w s => by
    simp only [tm, Th.cn]
    by_cases q : s = x
    · rw [if_pos q, if_pos (by rw [q])]
    · rw [if_neg q, if_neg (fun g => q (hφ _ _ g))]
  | .pk a b => by simp only [tm, Th.cn]; rw [tm_cn hφ x a, tm_cn hφ x b]
theorem tm_ct (hφ : ∀ a b, φ a = φ b → a = b) (x : Nat) : ∀ l : List Th, ct (φ x) (l.map (tm k φ)) = ct x l
  | [] => rfl
  | t :: l => by simp only [List.map_cons, ct]; rw [tm_cn hφ x t, tm_ct hφ x l]
theorem tm_pks : ∀ R : List Th, pks (R.map (tm k φ)) = (pks R).map (tm k φ)
  | [] => rfl
  | [a] => rfl
  | a :: b :: r => by simp only [List.map_cons, pks]; rw [tm_pks r]; rfl
theorem tm_mrg (hk : 1 ≤ k) : ∀ (L P : List Th), mrg (L.map (tm k φ)) (P.map (tm k φ)) = (mrg L P).map (tm k φ)
  | [], P => by rw [List.map_nil, mrg_nil, mrg_nil]
  | l :: L, [] => by rw [List.map_nil, mrg_nil', mrg_nil']
  | l :: L, p :: P => by
    rw [mrg_cons, List.map_cons, List.map_cons, mrg_cons, tm_wt, tm_wt]
    have hc : k * p.wt < k * l.wt ↔ p.wt < l.wt := Nat.mul_lt_mul_left (by omega)
    by_cases h : p.wt < l.wt
    · rw [if_pos (hc.2 h), if_pos h, List.map_cons, ← tm_mrg hk (l :: L) P, List.map_cons]
    · rw [if_neg (fun g => h (hc.1 g)), if_neg h, List.map_cons, ← tm_mrg hk L (p :: P), List.map_cons]
termination_by L P => L.length + P.length
theorem tm_row (hk : 1 ≤ k) (L : List Th) : ∀ j, row (L.map (tm k φ)) j = (row L j).map (tm k φ)
  | 0 => rfl
  | j + 1 => by
    show mrg _ (pks (row _ j)) = _
    rw [tm_row hk L j, tm_pks, tm_mrg hk]; rfl
/-- leaves that weigh k times as much and have other symbols -/
def te (k : Nat) (φ : Nat → Nat) (e : Nat → Nat × Nat) (i : Nat) : Nat × Nat := (k * (e i).1, φ (e i).2)
theorem tm_pl (hk : 1 ≤ k) (hφ : ∀ a b, φ a = φ b → a = b) (m : Nat) (e : Nat → Nat × Nat) (L s : Nat) : pl m (te k φ e) L (φ s) = pl m e L s := by
  unfold pl
  by_cases h0 : m = 0
  · rw [if_pos h0, if_pos h0]
  rw [if_neg h0, if_neg h0]
  by_cases h1 : m = 1
  · rw [if_pos h1, if_pos h1]
    show (if φ s = φ (e 0).2 then 1 else 0) = (if s = (e 0).2 then 1 else 0)
    by_cases q : s = (e 0).2
    · rw [if_pos q, if_pos (by rw [q])]
    · rw [if_neg q, if_neg (fun g => q (hφ _ _ g))]
  rw [if_neg h1, if_neg h1]
  have hl : lvs (lw (te k φ e)) (ly (te k φ e)) m = (lvs (lw e) (ly e) m).map (tm k φ) := by
    unfold lvs
    rw [List.map_map]; rfl
  rw [hl, tm_row hk, ← List.map_take, tm_ct hφ]
end
theorem lv_times {c : Nat → Nat} {n m k : Nat} {e : Nat → Nat × Nat} (hk : 1 ≤ k) (h : IsLv c n m e) : IsLv (fun s => k * c s) n m (te k id e) := by
  refine ⟨fun i j h1 h2 h3 => ?_, fun i hi => ?_, fun s hs hc => ?_, h.le⟩
  · have := h.ord i j h1 h2 h3
    show k * (e i).1 < k * (e j).1 ∨ (k * (e i).1 = k * (e j).1 ∧ (e i).2 < (e j).2)
    rcases this with g | ⟨g1, g2⟩
    · exact .inl ((Nat.mul_lt_mul_left (by omega)).2 g)
    · exact .inr ⟨by rw [g1], g2⟩
  · obtain ⟨g1, g2, g3⟩ := h.is_ i hi
    exact ⟨g1, Nat.mul_pos (by omega) g2, by show k * (e i).1 = k * c (e i).2; rw [g3]⟩
  · have h0 : 0 < c s := by
      apply Nat.pos_of_ne_zero
      intro g
      have : 0 < k * c s := hc
      rw [g, Nat.mul_zero] at this; omega
    exact h.all s hs h0
theorem pl_times {k : Nat} (hk : 1 ≤ k) (m : Nat) (e : Nat → Nat × Nat) (L s : Nat) : pl m (te k id e) L s = pl m e L s := tm_pl (φ := id) hk (fun _ _ g => g) m e L s
/-- a symbol that does not count, put at k -/
def put0 (c : Nat → Nat) (k s : Nat) : Nat := if s < k then c s else if s = k then 0 else c (s - 1)
def ups (k s : Nat) : Nat := if s < k then s else s + 1
theorem ups_inj (k : Nat) : ∀ a b, ups k a = ups k b → a = b := by
  intro a b h
  unfold ups at h
  split at h <;> split at h <;> omega
theorem put0_ups (c : Nat → Nat) (k s : Nat) : put0 c k (ups k s) = c s := by
  unfold put0 ups
  by_cases h : s < k
  · rw [if_pos h, if_pos h]
  · rw [if_neg h, if_neg (by omega), if_neg (by omega), Nat.add_sub_cancel]
theorem lv_put {c : Nat → Nat} {n m k : Nat} {e : Nat → Nat × Nat} (hk : k ≤ n) (h : IsLv c n m e) : IsLv (put0 c k) (n + 1) m (te 1 (ups k) e) := by
  refine ⟨fun i j h1 h2 h3 => ?_, fun i hi => ?_, fun s hs hc => ?_, by have := h.le; omega⟩
  · have := h.ord i j h1 h2 h3
    show 1 * (e i).1 < 1 * (e j).1 ∨ (1 * (e i).1 = 1 * (e j).1 ∧ ups k (e i).2 < ups k (e j).2)
    rcases this with g | ⟨g1, g2⟩
    · exact .inl (by omega)
    · refine .inr ⟨by omega, ?_⟩
      unfold ups; split <;> split <;> omega
  · obtain ⟨g1, g2, g3⟩ := h.is_ i hi
    show ups k (e i).2 < n + 1 ∧ 0 < put0 c k (ups k (e i).2) ∧ 1 * (e i).1 = put0 c k (ups k (e i).2)
    rw [put0_ups]
    refine ⟨?_, g2, by omega⟩
    unfold ups; split <;> omega
  · by_cases q : s < k
    · have hc' : 0 < c s := by unfold put0 at hc; rwa [if_pos q] at hc
      obtain ⟨i, hi, r⟩ := h.all s (by omega) hc'
      exact ⟨i, hi, by show ups k (e i).2 = s; rw [r]; unfold ups; rw [if_pos q]⟩
    · by_cases q2 : s = k
      · unfold put0 at hc; rw [if_neg q, if_pos q2] at hc; omega
      · have hc' : 0 < c (s - 1) := by unfold put0 at hc; rwa [if_neg q, if_neg q2] at hc
        obtain ⟨i, hi, r⟩ := h.all (s - 1) (by omega) hc'
        exact ⟨i, hi, by show ups k (e i).2 = s; rw [r]; unfold ups; rw [if_neg (by omega)]; omega⟩
theorem pl_put (k m : Nat) (e : Nat → Nat × Nat) (L s : Nat) : pl m (te 1 (ups k) e) L (ups k s) = pl m e L s := tm_pl (Nat.le_refl _) (ups_inj k) m e L s
theorem pl_put0 {c : Nat → Nat} {n m L k : Nat} {e : Nat → Nat × Nat} (hk : k ≤ n) (h : IsLv c n m e) (hL : nds m ≤ L) (h1 : 1 ≤ L) : pl m (te 1 (ups k) e) L k = 0 :=
  pl_none (lv_put hk h) hL h1 (fun i hi g => by
    have : ups k (e i).2 = k := g
    unfold ups at this; split at this <;> omega)
end Go.Proofs.YtkegkfmikplgdaaDoor
