/- How long a leaf's code is by the rows of packages: none above the limit, the heavier the shorter, whole, and no other lengths weigh less. No program. -/
import Derived.Test.YteicamfelamfhaaMathT
namespace Go.Proofs.Yteicamfelamfhaa.M
set_option linter.unusedVariables false

/-- a sum -/
def sm (f : Nat → Nat) : Nat → Nat
  | 0 => 0
  | n + 1 => sm f n + f n
theorem sm_congr {f g : Nat → Nat} : ∀ n, (∀ i, i < n → f i = g i) → sm f n = sm g n
  | 0, _ => rfl
  | n + 1, h => by simp only [sm]; rw [sm_congr n (fun i hi => h i (by omega)), h n (by omega)]
theorem sm_le {f g : Nat → Nat} : ∀ n, (∀ i, i < n → f i ≤ g i) → sm f n ≤ sm g n
  | 0, _ => Nat.le_refl _
  | n + 1, h => by
    have := sm_le n (fun i hi => h i (by omega)); have := h n (by omega)
    simp only [sm]; omega
theorem sm_add (f g : Nat → Nat) : ∀ n, sm (fun i => f i + g i) n = sm f n + sm g n
  | 0 => rfl
  | n + 1 => by simp only [sm]; rw [sm_add f g n]; omega
theorem sm_mul (f : Nat → Nat) (c : Nat) : ∀ n, sm (fun i => f i * c) n = sm f n * c
  | 0 => by simp [sm]
  | n + 1 => by simp only [sm]; rw [sm_mul f c n, Nat.add_mul]
theorem sm_const (c : Nat) : ∀ n, sm (fun _ => c) n = n * c
  | 0 => by simp [sm]
  | n + 1 => by simp only [sm]; rw [sm_const c n, Nat.succ_mul]
theorem sm_zero : ∀ n, sm (fun _ => 0) n = 0 := fun n => by rw [sm_const]; simp
theorem sm_swap (f : Nat → Nat → Nat) (m : Nat) : ∀ k, sm (fun j => sm (fun i => f i j) m) k = sm (fun i => sm (fun j => f i j) k) m
  | 0 => by simp only [sm]; rw [sm_zero]
  | k + 1 => by simp only [sm]; rw [sm_swap f m k, sm_add]
theorem sm_pre (w : Nat → Nat) (a : Nat) : ∀ m, a ≤ m → sm (fun i => if i < a then w i else 0) m = sm w a
  | 0, h => by obtain rfl : a = 0 := by omega
               rfl
  | m + 1, h => by
    simp only [sm]
    by_cases e : a = m + 1
    · subst e
      rw [if_pos (by omega)]
      simp only [sm]
      rw [sm_congr m (g := w) (fun i hi => if_pos (by omega))]
    · rw [sm_pre w a m (by omega), if_neg (by omega)]; omega
theorem sm_mono (w : Nat → Nat) {a b : Nat} (h : a ≤ b) : sm w a ≤ sm w b := by
  induction b with
  | zero => obtain rfl : a = 0 := by omega
            exact Nat.le_refl _
  | succ b ih =>
    by_cases e : a = b + 1
    · subst e; exact Nat.le_refl _
    · have := ih (by omega)
      simp only [sm]; omega

/-- leaves: their weights, their symbols -/
def lvs (w g : Nat → Nat) (m : Nat) : List Th := (List.range m).map fun i => Th.lf (w i) (g i)
/-- numbers rise -/
def Rise (w : Nat → Nat) (m : Nat) : Prop := ∀ i j, i ≤ j → j < m → w i ≤ w j
theorem lvs_length (w g : Nat → Nat) (m : Nat) : (lvs w g m).length = m := by unfold lvs; simp
theorem lvs_at (w g : Nat → Nat) (m i : Nat) (h : i < m) : (lvs w g m)[i]? = some (.lf (w i) (g i)) := by unfold lvs; simp [h]
theorem lvs_succ (w g : Nat → Nat) (m : Nat) : lvs w g (m + 1) = lvs w g m ++ [.lf (w m) (g m)] := by unfold lvs; rw [List.range_succ]; simp
theorem lvs_take (w g : Nat → Nat) {a m : Nat} (h : a ≤ m) : (lvs w g m).take a = lvs w g a := by
  unfold lvs; rw [← List.map_take, List.take_range, Nat.min_eq_left h]
theorem lvs_up {w g : Nat → Nat} {m : Nat} (h : Rise w m) : Up (lvs w g m) := by
  unfold Up lvs
  rw [List.pairwise_map]
  refine List.Pairwise.imp_of_mem ?_ (List.pairwise_lt_range (n := m))
  intro a b ha hb hab
  exact h a b (by omega) (List.mem_range.1 hb)
theorem lvs_ws (w g : Nat → Nat) : ∀ a, ws (lvs w g a) = sm w a
  | 0 => rfl
  | a + 1 => by rw [lvs_succ, ws_append, lvs_ws w g a]; simp [ws, sm, Th.wt]
theorem lvs_ct {w g : Nat → Nat} {m i : Nat} (inj : ∀ i j, i < m → j < m → g i = g j → i = j) (hi : i < m) : ∀ a, a ≤ m → ct (g i) (lvs w g a) = if i < a then 1 else 0
  | 0, _ => by simp [lvs, ct]
  | a + 1, h => by
    rw [lvs_succ, ct_append, lvs_ct inj hi a (by omega)]
    simp only [ct, Th.cn]
    by_cases e : i = a
    · subst e; simp
    · have : g a ≠ g i := fun q => e (inj a i (by omega) hi q).symm
      rw [if_neg this]
      by_cases e2 : i < a
      · rw [if_pos e2, if_pos (by omega)]
      · rw [if_neg e2, if_neg (by omega)]
theorem lvs_ct0 {w g : Nat → Nat} {x : Nat} : ∀ m, (∀ i, i < m → g i ≠ x) → ct x (lvs w g m) = 0
  | 0, _ => by simp [lvs, ct]
  | m + 1, h => by
    rw [lvs_succ, ct_append, lvs_ct0 m (fun i hi => h i (by omega))]
    simp [ct, Th.cn, h m (by omega)]

section
variable {w g : Nat → Nat} {m : Nat}
/-- how many leaves are among the first q of the row of level k -/
def tl (L : List Th) : Nat → Nat → Nat
  | 0, _ => 0
  | k + 1, q => nl L (pks (row L k)) q
/-- how often leaf i is in the first q of the row of level k -/
def ln (L : List Th) : Nat → Nat → Nat → Nat
  | 0, _, _ => 0
  | k + 1, q, i => (if i < tl L (k + 1) q then 1 else 0) + ln L k (2 * (q - tl L (k + 1) q)) i
/-- how much of all codes' room that is -/
def wd (L : List Th) : Nat → Nat → Nat → Nat
  | 0, _, _ => 0
  | k + 1, q, i => (if i < tl L (k + 1) q then 2 ^ k else 0) + wd L k (2 * (q - tl L (k + 1) q)) i

theorem tl_len (L : List Th) (k q : Nat) : tl L k q ≤ L.length := by
  cases k with
  | zero => simp [tl]
  | succ k => exact nl_len _ _ _
theorem tl_le (L : List Th) (k q : Nat) : tl L k q ≤ q := by
  cases k with
  | zero => simp [tl]
  | succ k => exact nl_le _ _ _
/-- what the packages of the first q are made of -/
theorem tl_rest (L : List Th) (k q : Nat) (h : q ≤ (row L (k + 1)).length) : q - tl L (k + 1) q ≤ (pks (row L k)).length ∧ 2 * (q - tl L (k + 1) q) ≤ (row L k).length := by
  have h1 : q ≤ L.length + (pks (row L k)).length := by rw [← mrg_length]; exact h
  have h2 := nl_rest L (pks (row L k)) q h1
  have h3 : q - tl L (k + 1) q ≤ (pks (row L k)).length := h2
  refine ⟨h3, ?_⟩
  rw [pks_length] at h3; omega
theorem ct_row (inj : ∀ i j, i < m → j < m → g i = g j → i = j) {i : Nat} (hi : i < m) : ∀ k q, q ≤ (row (lvs w g m) k).length → ct (g i) ((row (lvs w g m) k).take q) = ln (lvs w g m) k q i
  | 0, q, h => by simp [row, ct, ln]
  | k + 1, q, h => by
    obtain ⟨h1, h2⟩ := tl_rest _ k q h
    have h4 := tl_len (lvs w g m) (k + 1) q
    rw [lvs_length] at h4
    show ct (g i) ((mrg _ (pks _)).take q) = _
    rw [ct_take _ _ _ _ (by rw [← mrg_length]; exact h)]
    show ct (g i) ((lvs w g m).take (tl _ (k + 1) q)) + ct (g i) ((pks _).take (q - tl _ (k + 1) q)) = _
    rw [lvs_take _ _ h4, lvs_ct inj hi _ h4, ct_pks _ _ _ h2, ct_row inj hi k _ h2]; rfl
theorem ct_row0 {x : Nat} (hx : ∀ i, i < m → g i ≠ x) : ∀ k q, q ≤ (row (lvs w g m) k).length → ct x ((row (lvs w g m) k).take q) = 0
  | 0, q, h => by simp [row, ct]
  | k + 1, q, h => by
    obtain ⟨h1, h2⟩ := tl_rest _ k q h
    have h4 := tl_len (lvs w g m) (k + 1) q
    rw [lvs_length] at h4
    show ct x ((mrg _ (pks _)).take q) = _
    rw [ct_take _ _ _ _ (by rw [← mrg_length]; exact h)]
    show ct x ((lvs w g m).take (tl _ (k + 1) q)) + ct x ((pks _).take (q - tl _ (k + 1) q)) = _
    rw [lvs_take _ _ h4, lvs_ct0 _ (fun i hi => hx i (by omega)), ct_pks _ _ _ h2, ct_row0 hx k _ h2]
theorem ws_row : ∀ k q, q ≤ (row (lvs w g m) k).length → ws ((row (lvs w g m) k).take q) = sm (fun i => ln (lvs w g m) k q i * w i) m
  | 0, q, h => by
    simp only [row, List.take_nil, ws, ln]
    rw [sm_congr m (g := fun _ => 0) (fun i _ => by simp), sm_zero]
  | k + 1, q, h => by
    obtain ⟨h1, h2⟩ := tl_rest _ k q h
    have h4 := tl_len (lvs w g m) (k + 1) q
    rw [lvs_length] at h4
    show ws ((mrg _ (pks _)).take q) = _
    rw [ws_take _ _ _ (by rw [← mrg_length]; exact h)]
    show ws ((lvs w g m).take (tl _ (k + 1) q)) + ws ((pks _).take (q - tl _ (k + 1) q)) = _
    rw [lvs_take _ _ h4, lvs_ws, ws_pks _ _ h2, ws_row k _ h2, ← sm_pre w _ m h4, ← sm_add]
    apply sm_congr
    intro i hi
    simp only [ln, Nat.add_mul]
    congr 1
    split <;> simp
theorem ln_anti (L : List Th) {i j : Nat} (h : i ≤ j) : ∀ k q, ln L k q j ≤ ln L k q i
  | 0, q => Nat.le_refl _
  | k + 1, q => by
    have := ln_anti L h k (2 * (q - tl L (k + 1) q))
    simp only [ln]
    by_cases e : j < tl L (k + 1) q
    · rw [if_pos e, if_pos (by omega)]; omega
    · rw [if_neg e]; omega
theorem ln_le (L : List Th) (i : Nat) : ∀ k q, ln L k q i ≤ k
  | 0, q => Nat.le_refl _
  | k + 1, q => by
    have := ln_le L i k (2 * (q - tl L (k + 1) q))
    simp only [ln]; split <;> omega
/-- no more leaves are in the packages, level by level -/
theorem tl_mono {L : List Th} (hL : Up L) (k q : Nat) (h : q ≤ (row L (k + 1)).length) : tl L k (2 * (q - tl L (k + 1) q)) ≤ tl L (k + 1) q := by
  cases k with
  | zero => simp [tl]
  | succ k =>
    apply Nat.le_of_not_lt
    intro hlt
    obtain ⟨h1, h2⟩ := tl_rest L (k + 1) q h
    obtain ⟨a, ha⟩ : ∃ a, tl L (k + 1 + 1) q = a := ⟨_, rfl⟩
    rw [ha] at h1 h2 hlt
    have h3 := tl_len L (k + 1) (2 * (q - a))
    have hal : a < L.length := by omega
    have hm : L[a] ∈ L.take (nl L (pks (row L k)) (2 * (q - a))) := by
      rw [List.mem_take_iff_getElem]
      exact ⟨a, by rw [Nat.lt_min]; exact ⟨hlt, hal⟩, rfl⟩
    have hm2 := mem_take _ _ _ _ hm
    obtain ⟨u, hu, hw⟩ := mem_pks (L[a]) (row L (k + 1)) (q - a) h2 hm2
    have := pk_less u (L[a]) L (pks (row L (k + 1))) q hL (by
      show L[tl L (k + 1 + 1) q]? = _
      rw [ha]; exact List.getElem?_eq_getElem hal) (by
      show u ∈ (pks (row L (k + 1))).take (q - tl L (k + 1 + 1) q)
      rw [ha]; exact hu)
    omega
theorem ln_none {L : List Th} (hL : Up L) {i : Nat} : ∀ k q, q ≤ (row L k).length → tl L k q ≤ i → ln L k q i = 0
  | 0, _, _, _ => rfl
  | k + 1, q, h, hi => by
    obtain ⟨h1, h2⟩ := tl_rest L k q h
    have := tl_mono hL k q h
    simp only [ln]
    rw [if_neg (by omega), ln_none hL k _ h2 (by omega)]
theorem wd_ln {L : List Th} (hL : Up L) (i : Nat) : ∀ k q, q ≤ (row L k).length → wd L k q i + 2 ^ (k - ln L k q i) = 2 ^ k
  | 0, _, _ => by simp [wd]
  | k + 1, q, h => by
    obtain ⟨h1, h2⟩ := tl_rest L k q h
    have ih := wd_ln hL i k _ h2
    have hp : 2 ^ (k + 1) = 2 ^ k + 2 ^ k := by rw [Nat.pow_succ]; omega
    simp only [wd, ln]
    by_cases e : i < tl L (k + 1) q
    · rw [if_pos e, if_pos e, show k + 1 - (1 + ln L k (2 * (q - tl L (k + 1) q)) i) = k - ln L k (2 * (q - tl L (k + 1) q)) i by omega, hp]; omega
    · have h0 := ln_none hL k _ h2 (show tl L k (2 * (q - tl L (k + 1) q)) ≤ i from Nat.le_trans (tl_mono hL k q h) (by omega))
      rw [h0] at ih ⊢
      rw [if_neg e, if_neg e, hp]
      simp only [Nat.sub_zero, Nat.add_zero, Nat.zero_add] at ih ⊢
      rw [hp]; omega
theorem sm_wd (L : List Th) : ∀ k q, q ≤ (row L k).length → 2 * sm (wd L k q) L.length = q * 2 ^ k
  | 0, q, h => by
    obtain rfl : q = 0 := by simpa [row] using h
    have e : sm (wd L 0 0) L.length = sm (fun _ => 0) L.length := sm_congr _ (fun i _ => rfl)
    rw [e, sm_zero]
  | k + 1, q, h => by
    obtain ⟨h1, h2⟩ := tl_rest L k q h
    have ih := sm_wd L k _ h2
    have h4 := tl_len L (k + 1) q
    have h5 := tl_le L (k + 1) q
    have e : sm (wd L (k + 1) q) L.length = tl L (k + 1) q * 2 ^ k + sm (wd L k (2 * (q - tl L (k + 1) q))) L.length := by
      rw [← sm_const (2 ^ k), ← sm_pre (fun _ => 2 ^ k) _ _ h4, ← sm_add]; rfl
    rw [e, Nat.mul_add, ih, Nat.pow_succ]
    obtain ⟨x, hx⟩ : ∃ x, q = tl L (k + 1) q + x := ⟨q - tl L (k + 1) q, by omega⟩
    generalize tl L (k + 1) q = a at *
    subst hx
    rw [show a + x - a = x by omega, Nat.add_mul]
    generalize 2 ^ k = p
    rw [show a * (p * 2) = 2 * (a * p) by rw [Nat.mul_comm p, Nat.mul_left_comm], show x * (p * 2) = 2 * x * p by rw [Nat.mul_comm p, Nat.mul_left_comm, Nat.mul_assoc]]
/-- the codes are whole -/
theorem kraft {L : List Th} (hL : Up L) (k : Nat) (h0 : 0 < L.length) (h : 2 * L.length - 2 ≤ (row L k).length) : sm (fun i => 2 ^ (k - ln L k (2 * L.length - 2) i)) L.length = 2 ^ k := by
  have h1 := sm_wd L k _ h
  have h2 : sm (fun i => wd L k (2 * L.length - 2) i + 2 ^ (k - ln L k (2 * L.length - 2) i)) L.length = L.length * 2 ^ k := by
    rw [← sm_const (2 ^ k)]
    exact sm_congr _ (fun i _ => wd_ln hL i k _ h)
  rw [sm_add] at h2
  obtain ⟨n, hn⟩ : ∃ n, L.length = n + 1 := ⟨L.length - 1, by omega⟩
  rw [hn] at h1 h2 ⊢
  rw [show 2 * (n + 1) - 2 = 2 * n by omega] at h1 h2 ⊢
  rw [Nat.add_mul, Nat.one_mul] at h2
  have h3 : sm (wd L k (2 * n)) (n + 1) = n * 2 ^ k := by
    have e : 2 * n * 2 ^ k = 2 * (n * 2 ^ k) := by rw [Nat.mul_assoc]
    omega
  have h4 : sm (fun i => wd L k (2 * n) i) (n + 1) = n * 2 ^ k := h3
  omega
/-- each leaf is among the first things -/
theorem tl_top {L : List Th} (hL : Up L) (h2 : 2 ≤ L.length) : ∀ k, 2 * L.length - 2 ≤ (row L k).length → tl L k (2 * L.length - 2) = L.length
  | 0, h => by simp [row] at h; omega
  | k + 1, h => by
    obtain ⟨g1, g2⟩ := tl_rest L k _ h
    have g3 := tl_len L (k + 1) (2 * L.length - 2)
    apply Nat.le_antisymm g3
    apply Nat.le_of_not_lt
    intro hlt
    obtain ⟨a, ha⟩ : ∃ a, tl L (k + 1) (2 * L.length - 2) = a := ⟨_, rfl⟩
    rw [ha] at g1 g2 hlt
    have ih := tl_top hL h2 k (by omega)
    cases k with
    | zero => simp [tl] at ih; omega
    | succ k =>
      have hm : L[a] ∈ L.take (nl L (pks (row L k)) (2 * L.length - 2)) := by
        rw [List.mem_take_iff_getElem]
        exact ⟨a, by rw [Nat.lt_min]; exact ⟨by show a < tl L (k + 1) _; omega, hlt⟩, rfl⟩
      have hm2 := mem_take _ _ _ _ hm
      rw [show 2 * L.length - 2 = 2 * (L.length - 1) by omega] at hm2
      obtain ⟨u, hu, hw⟩ := mem_pks (L[a]) (row L (k + 1)) (L.length - 1) (by omega) hm2
      have hu2 : u ∈ (pks (row L (k + 1))).take (2 * L.length - 2 - a) := by
        have : (pks (row L (k + 1))).take (L.length - 1) = ((pks (row L (k + 1))).take (2 * L.length - 2 - a)).take (L.length - 1) := by
          rw [List.take_take, Nat.min_eq_left (by omega)]
        rw [this] at hu
        exact List.mem_of_mem_take hu
      have := pk_less u (L[a]) L (pks (row L (k + 1))) (2 * L.length - 2) hL (by
        show L[tl L (k + 1 + 1) _]? = _
        rw [ha]; exact List.getElem?_eq_getElem hlt) (by
        show u ∈ (pks (row L (k + 1))).take (_ - tl L (k + 1 + 1) _)
        rw [ha]; exact hu2)
      omega
theorem ln_pos {L : List Th} (hL : Up L) (h2 : 2 ≤ L.length) {k i : Nat} (h : 2 * L.length - 2 ≤ (row L k).length) (hi : i < L.length) : 1 ≤ ln L k (2 * L.length - 2) i := by
  have := tl_top hL h2 k h
  cases k with
  | zero => simp [tl] at this; omega
  | succ k => simp only [ln]; rw [this, if_pos hi]; omega
/-- a row has so many things -/
theorem row_room (L : List Th) : ∀ k j, L.length ≤ 2 ^ k * j → 2 * L.length ≤ (row L k).length + 2 * j
  | 0, j, h => by simp [row] at *; omega
  | k + 1, j, h => by
    have := row_room L k (2 * j) (by rw [Nat.pow_succ] at h; rwa [← Nat.mul_assoc])
    rw [row_length]; omega
theorem row_enough (L : List Th) (k : Nat) (h : L.length ≤ 2 ^ k) : 2 * L.length - 2 ≤ (row L k).length := by
  have := row_room L k 1 (by omega)
  omega

/-- no leaves, level by level, that have as much room weigh less -/
theorem least (hw : Rise w m) : ∀ k q (a : Nat → Nat), (∀ j, a j ≤ m) → q * 2 ^ k ≤ 2 * sm (fun j => a j * 2 ^ j) k → q ≤ (row (lvs w g m) k).length ∧ ws ((row (lvs w g m) k).take q) ≤ sm (fun j => sm w (a j)) k
  | 0, q, a, _, h => by
    simp only [sm, Nat.mul_zero, Nat.pow_zero, Nat.mul_one] at h
    obtain rfl : q = 0 := by omega
    exact ⟨by simp, by simp [ws]⟩
  | k + 1, q, a, ha, h => by
    simp only [sm] at h ⊢
    have hU := lvs_up (g := g) hw
    have hP := pks_up _ (row_up _ hU k)
    have hak := ha k
    by_cases hc : q ≤ a k
    · have h1 : q ≤ (lvs w g m).length := by rw [lvs_length]; omega
      have h2 := ws_least (lvs w g m) (pks (row (lvs w g m) k)) q 0 hU hP h1 (Nat.zero_le _)
      rw [Nat.add_zero, lvs_take _ _ (show q ≤ m by omega), lvs_ws] at h2
      simp only [List.take_zero, ws] at h2
      have h3 := sm_mono w hc
      refine ⟨?_, ?_⟩
      · rw [row_length, lvs_length]; omega
      · show ws ((mrg _ (pks _)).take q) ≤ _; omega
    · obtain ⟨e, he⟩ : ∃ e, q = a k + e := ⟨q - a k, by omega⟩
      subst he
      have h1 : (2 * e) * 2 ^ k ≤ 2 * sm (fun j => a j * 2 ^ j) k := by
        rw [Nat.pow_succ] at h
        have e1 : (a k + e) * (2 ^ k * 2) = 2 * (a k * 2 ^ k) + 2 * e * 2 ^ k := by
          rw [Nat.add_mul, Nat.mul_comm (2 ^ k) 2, Nat.mul_left_comm (a k), Nat.mul_left_comm e, Nat.mul_assoc 2 e]
        rw [e1] at h
        omega
      obtain ⟨i1, i2⟩ := least hw k (2 * e) a ha h1
      have h2 : e ≤ (pks (row (lvs w g m) k)).length := by rw [pks_length]; omega
      have h3 := ws_least (lvs w g m) (pks (row (lvs w g m) k)) (a k) e hU hP (by rw [lvs_length]; omega) h2
      rw [lvs_take _ _ hak, lvs_ws, ws_pks _ _ i1] at h3
      refine ⟨?_, ?_⟩
      · rw [row_length, lvs_length]; omega
      · show ws ((mrg _ (pks _)).take _) ≤ _; omega

theorem one_code (k l : Nat) (hl : l ≤ k) : ∀ n, n ≤ k → sm (fun j => if k ≤ l + j then 2 ^ j else 0) n + 2 ^ (k - l) = if k ≤ l + n then 2 ^ n else 2 ^ (k - l)
  | 0, _ => by
    simp only [sm, Nat.zero_add, Nat.add_zero]
    split
    · rw [show k - l = 0 by omega]
    · rfl
  | n + 1, h => by
    have ih := one_code k l hl n (by omega)
    simp only [sm]
    by_cases e : k ≤ l + n
    · rw [if_pos e] at ih ⊢
      rw [if_pos (by omega), Nat.pow_succ]; omega
    · rw [if_neg e] at ih ⊢
      by_cases e2 : k ≤ l + (n + 1)
      · rw [if_pos e2, show n + 1 = k - l by omega]; omega
      · rw [if_neg e2]; omega
theorem one_count (k l x : Nat) (hl : l ≤ k) : ∀ n, n ≤ k → sm (fun j => if k ≤ l + j then x else 0) n = (l + n - k) * x
  | 0, h => by
    have : l + 0 - k = 0 := by omega
    rw [this]; simp [sm]
  | n + 1, h => by
    simp only [sm]
    rw [one_count k l x hl n (by omega)]
    by_cases e : k ≤ l + n
    · rw [if_pos e, show l + (n + 1) - k = (l + n - k) + 1 by omega, Nat.succ_mul]
    · rw [if_neg e, show l + (n + 1) - k = 0 by omega, show l + n - k = 0 by omega]; simp
/-- no leaves, so many, weigh less than the first ones -/
theorem pre_least (hw : Rise w m) (p : Nat → Prop) [DecidablePred p] : ∀ n, n ≤ m → sm (fun i => if p i then 1 else 0) n ≤ n ∧ sm w (sm (fun i => if p i then 1 else 0) n) ≤ sm (fun i => if p i then w i else 0) n
  | 0, _ => ⟨Nat.le_refl _, Nat.le_refl _⟩
  | n + 1, h => by
    obtain ⟨h1, h2⟩ := pre_least hw p n (by omega)
    simp only [sm]
    by_cases e : p n
    · rw [if_pos e, if_pos e]
      simp only [sm]
      have := hw _ n h1 (by omega)
      omega
    · rw [if_neg e, if_neg e, Nat.add_zero, Nat.add_zero]; omega
/-- no other lengths within the limit that have room weigh less -/
theorem best (hw : Rise w m) (hm : 0 < m) (k : Nat) (l : Nat → Nat) (hl : ∀ i, i < m → l i ≤ k) (hs : sm (fun i => 2 ^ (k - l i)) m ≤ 2 ^ k) :
    2 * m - 2 ≤ (row (lvs w g m) k).length ∧ ws ((row (lvs w g m) k).take (2 * m - 2)) ≤ sm (fun i => l i * w i) m := by
  have h1 : sm (fun j => sm (fun i => if k ≤ l i + j then 1 else 0) m * 2 ^ j) k + sm (fun i => 2 ^ (k - l i)) m = m * 2 ^ k := by
    have e1 : sm (fun j => sm (fun i => if k ≤ l i + j then 1 else 0) m * 2 ^ j) k = sm (fun i => sm (fun j => if k ≤ l i + j then 2 ^ j else 0) k) m := by
      rw [← sm_swap]
      apply sm_congr
      intro j hj
      rw [← sm_mul]
      apply sm_congr
      intro i hi
      split <;> simp
    rw [e1, ← sm_add, ← sm_const]
    apply sm_congr
    intro i hi
    rw [one_code k (l i) (hl i hi) k (Nat.le_refl _), if_pos (by omega)]
  obtain ⟨n, rfl⟩ : ∃ n, m = n + 1 := ⟨m - 1, by omega⟩
  obtain ⟨g1, g2⟩ := least (g := g) hw k (2 * (n + 1) - 2) (fun j => sm (fun i => if k ≤ l i + j then 1 else 0) (n + 1)) (fun j => (pre_least hw (fun i => k ≤ l i + j) (n + 1) (Nat.le_refl _)).1) (by
    rw [show 2 * (n + 1) - 2 = 2 * n by omega, Nat.mul_assoc]
    rw [Nat.succ_mul] at h1
    omega)
  refine ⟨g1, Nat.le_trans g2 ?_⟩
  refine Nat.le_trans (sm_le (g := fun j => sm (fun i => if k ≤ l i + j then w i else 0) (n + 1)) k (fun j _ => (pre_least hw (fun i => k ≤ l i + j) (n + 1) (Nat.le_refl _)).2)) ?_
  rw [sm_swap]
  apply sm_le
  intro i hi
  rw [one_count k (l i) (w i) (hl i hi) k (Nat.le_refl _), show l i + k - k = l i by omega]
  exact Nat.le_refl _
end
end Go.Proofs.Yteicamfelamfhaa.M
